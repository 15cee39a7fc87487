import Derived.Test.YtmfijackgekioaaGreatDoorQ26
import Derived.Test.YtmfijackgekioaaGreatDoorQ27
set_option maxHeartbeats 2000000
set_option maxRecDepth 100000
namespace Go.Proofs.YtmfijackgekioaaGreatDoor
section
open Go.RowKit Go.Maps
structure Hd where
 wd:Int
 ht:Int
 kd:Int
 dp:Int
 ps:Bool
def uP (b:ByteArray):Hd:=⟨aM b 0,aM b 4,ae b 9,ae b 8,decide (ae b 12=1)⟩
def nN (b:ByteArray):Bool:=decide (b.size=13)&&((Pm.et (aM b 0)&&Pm.et (aM b 4))&&((decide (ae b 10=0)&&(decide (ae b 11=0)&&decide (ae b 12<=1)))&&!(Pm.chan (ae b 9) (ae b 8)==0)))
abbrev gE (h:Hd):Array Value:=#[.int .i64 h.wd,.int .i64 h.ht,.int .i64 h.kd,.int .i64 h.dp,.bool h.ps,.slice none 0 0,.slice none 0 0]
abbrev bm:Array Value:=#[.int .i64 0,.int .i64 0,.int .i64 0,.int .i64 0,.bool false,.slice none 0 0,.slice none 0 0]
section
variable {P:Program} {ops:Array Oper} {Q:Exit->Act->World->Prop} {md:Region.Mode} {S:World->Prop} {z:Nat}
theorem BV {i t:Nat}{oi:Oper}{v:Value}{fuel:Nat}{listed:Array Bool}{X T:Array Value}{df}{w:World}(ht:X.setIfInBounds t v=T)(hi:ops[i]?=some oi)(hd:oi.dst=some t)(hs:Region.noSelect ops=true)(hf:Region.free md ops listed i=true)(hr:(Region.ready md ops listed).contains i=true)(hz:waits md ops z i=true)(hQ:∀c a w,Q (.panic c) (a.put oi.dst v) w->Q (.panic c) a w)(hw:Region.wanted oi (yielded ops X)=true)(hy:∀w,S w->(execOp (Act.mk X df).eval oi).run P w=.ok (.value v) w)(hS:S w)(h:dU P md ops Q S z fuel (listed.setIfInBounds i true) ⟨T,df⟩ w):dU P md ops Q S z (fuel+1) listed ⟨X,df⟩ w:=by
 refine uV hi hs hf hr hz hQ hw hy hS ?_;rw[hd];show dU P md ops Q S z fuel _ ⟨X.setIfInBounds t v,df⟩ w;rw[ht];exact h
end
theorem PW {P F:World->Prop}{G:Prop}(h1:(∀u,F u->P u)->G)(h2:∀u,F u->P u):G:=h1 h2
structure Mt (w:World) (C:Array Value) (u:World):Prop where
 be:Below w.heap.size w u
 z:u.heap[w.heap.size]?=some (.cells bm 30 (0,0))
 m:u.heap[w.heap.size+1]?=some (.cells C 30 (0,0))
theorem gF {w:World}{T:Nat}{a b c d e f g:Value}{t:TypeId}(h:w.heap[T]?=some (.cells #[a,b,c,d,e,f,g] t (0,0))): w.cell? ⟨T,0,none⟩=some a/\w.cell? ⟨T,1,none⟩=some b/\w.cell? ⟨T,2,none⟩=some c/\w.cell? ⟨T,3,none⟩=some d/\w.cell? ⟨T,4,none⟩=some e/\w.cell? ⟨T,5,none⟩=some f/\w.cell? ⟨T,6,none⟩=some g/\(∀j,w.frozen? ⟨T,j,none⟩=false)/\T<w.heap.size :=
 ⟨aan _ _ _ _ _ _ h,aan _ _ _ _ _ _ h,aan _ _ _ _ _ _ h,aan _ _ _ _ _ _ h,aan _ _ _ _ _ _ h,aan _ _ _ _ _ _ h,aan _ _ _ _ _ _ h,fun j=>aaE w T j _ _ h,aab h⟩
abbrev ri (w:World)(X:Nat)(a b c d e f g:Value):World:=((((((w.setCell ⟨X,0,none⟩ a).setCell ⟨X,1,none⟩ b).setCell ⟨X,2,none⟩ c).setCell ⟨X,3,none⟩ d).setCell ⟨X,4,none⟩ e).setCell ⟨X,5,none⟩ f).setCell ⟨X,6,none⟩ g
theorem mI {w:World}{X:Nat}{t:TypeId}{a' b' c' d' e' f' g':Value}(h:w.heap[X]?=some (.cells #[a',b',c',d',e',f',g'] t (0,0)))(a b c d e f g:Value):(ri w X a b c d e f g).heap[X]?=some (.cells #[a,b,c,d,e,f,g] t (0,0)):=by
 have h0:(w.setCell ⟨X,0,none⟩ a).heap[X]?=some (.cells #[a,b',c',d',e',f',g'] t (0,0)):=aat _ X 0 _ _ _ h;unfold ri;generalize w.setCell ⟨X,0,none⟩ a=w0 at *;have h1:(w0.setCell ⟨X,1,none⟩ b).heap[X]?=some (.cells #[a,b,c',d',e',f',g'] t (0,0)):=aat _ X 1 _ _ _ h0;generalize w0.setCell ⟨X,1,none⟩ b=w1 at *;have h2:(w1.setCell ⟨X,2,none⟩ c).heap[X]?=some (.cells #[a,b,c,d',e',f',g'] t (0,0)):=aat _ X 2 _ _ _ h1;generalize w1.setCell ⟨X,2,none⟩ c=w2 at *;have h3:(w2.setCell ⟨X,3,none⟩ d).heap[X]?=some (.cells #[a,b,c,d,e',f',g'] t (0,0)):=aat _ X 3 _ _ _ h2;generalize w2.setCell ⟨X,3,none⟩ d=w3 at *;have h4:(w3.setCell ⟨X,4,none⟩ e).heap[X]?=some (.cells #[a,b,c,d,e,f',g'] t (0,0)):=aat _ X 4 _ _ _ h3;generalize w3.setCell ⟨X,4,none⟩ e=w4 at *;have h5:(w4.setCell ⟨X,5,none⟩ f).heap[X]?=some (.cells #[a,b,c,d,e,f,g'] t (0,0)):=aat _ X 5 _ _ _ h4;generalize w4.setCell ⟨X,5,none⟩ f=w5 at *;exact aat _ X 6 _ _ _ h5
theorem mJ (w:World)(X:Nat)(a b c d e f g:Value)(j:Nat)(h:j≠X):(ri w X a b c d e f g).heap[j]?=w.heap[j]?:=by
 unfold ri;rw[aag _ _ _ _ h,aag _ _ _ _ h,aag _ _ _ _ h,aag _ _ _ _ h,aag _ _ _ _ h,aag _ _ _ _ h,aag _ _ _ _ h]
theorem iQ {B:Nat}{a0 w:World}(k:Below B a0 w)(X:Nat)(h:B<=X)(a b c d e f g:Value):Below B a0 (ri w X a b c d e f g) :=
 ((((((k.setCell (p:=⟨X,0,none⟩) h _).setCell (p:=⟨X,1,none⟩) h _).setCell (p:=⟨X,2,none⟩) h _).setCell (p:=⟨X,3,none⟩) h _).setCell (p:=⟨X,4,none⟩) h _).setCell (p:=⟨X,5,none⟩) h _).setCell (p:=⟨X,6,none⟩) h _
end
section
variable {P:Program} {ops:Array Oper} {Q:Exit->Act->World->Prop} {md:Region.Mode} {S:World->Prop} {z:Nat}
theorem ff {i t:Nat}{is:List Nat}{oi:Oper}{v:Value}{fuel:Nat}{listed:Array Bool}{X T:Array Value}{df}{w:World}(ht:X.setIfInBounds t v=T)(hy:∀w,S w->(execOp (Act.mk X df).eval oi).run P w=.ok (.value v) w)(hS:S w)(h:Nn is (dU P md ops Q S z fuel (listed.setIfInBounds i true) ⟨T,df⟩ w))(hi:ops[i]?=some oi:=by rfl)(hd:oi.dst=some t:=by rfl)(hk:uW md ops listed z i oi X=true:=by kernel_rfl)(hQ:∀c a w,Q (.panic c) (a.put oi.dst v) w->Q (.panic c) a w:=by exact fun _ _ _ h=>h):Nn (i::is) (dU P md ops Q S z (fuel+1) listed ⟨X,df⟩ w):=by
 unfold uW at hk;simp only[aaJ]at hk;exact BV ht hi hd hk.1 hk.2.1 hk.2.2.1 hk.2.2.2.1 hQ hk.2.2.2.2 hy hS h
theorem au {i t:Nat}{is:List Nat}{oi:Oper}{v:Value}{fuel:Nat}{listed:Array Bool}{X T:Array Value}{df}{w:World}(hS:S w)(h:Nn is (dU P md ops Q S z fuel (listed.setIfInBounds i true) ⟨T,df⟩ w))(hi:ops[i]?=some oi:=by rfl)(hd:oi.dst=some t:=by rfl)(hy:∀w,S w->(execOp (Act.mk X df).eval oi).run P w=.ok (.value v) w:=by intro w hSw;(try dsimp only at hSw);go_simp;try with_reducible rfl)(ht:X.setIfInBounds t v=T:=by go_simp;try with_reducible rfl)(hk:uW md ops listed z i oi X=true:=by kernel_rfl)(hQ:∀c a w,Q (.panic c) (a.put oi.dst v) w->Q (.panic c) a w:=by exact fun _ _ _ h=>h):Nn (i::is) (dU P md ops Q S z (fuel+1) listed ⟨X,df⟩ w):=ff ht hy hS h hi hd hk hQ
end
section
open Go.RowKit Go.Maps
theorem DR (l:List Int)(k:Nat):Jc l (k:Int)=Pm.ap l k:=by
 unfold Jc Pm.ap;split
 ·rw[aaa,aas (by omega)];rfl
 ·rw[aa5]
theorem Jl (l:List Int)(i lead:Nat):Jc l ((i:Int)-(lead:Int))=Pm.cS (Pm.ap l) i lead:=by
 unfold Pm.cS;by_cases h:lead<=i
 ·rw[aaf h,show (i:Int)-(lead:Int)=((i-lead:Nat):Int) by omega,DR]
 ·rw[aae h,Jc,aaf (.inl (by omega))]
theorem qj {w:World}{base n:Nat}{v:Value}{zs:List Int}(h:w.ownsRow base 3 1 v n (vals zs)):∃ao cap,v=.slice ao n cap/\Ints w ao zs/\zs.length=n/\∀a,ao=some a->zs≠[]->base<=a.block/\a.block<w.heap.size:=by
 have hl:zs.length=n:=by have:=h.1;simp[vals]at this;omega
 rcases h.2 with⟨e1,e2⟩|⟨g,cap,cur,e,hb,hg,_⟩
 ·refine⟨none,0,by rw[e1,e2],fun j hj=>by omega,hl,fun a e=>by cases e⟩
 ·subst e;exact⟨some ⟨g,0,none⟩,cap,rfl,fun j hj=>⟨g,0,rfl,by rw[aaF];exact oN h j hj⟩,hl,fun a e _=>by cases e;exact⟨hb,aab hg⟩⟩
inductive Jm (f lead:Nat) (a:List Int) (x:Nat->Int) (n:Nat) (w:World):Ending->World->Prop
 | no {w'}:4<f->Below w.heap.size w w'->Jm f lead a x n w (.returned (.tuple #[.slice none 0 0,.bool false])) w'
 | ok {w' v}:f<=4->w'.ownsRow w.heap.size 3 1 v n (vals (Pm.lq f lead (Pm.ap a) x n))->Below w.heap.size w w'->Jm f lead a x n w (.returned (.tuple #[v,.bool true])) w'
theorem z9 (f lead:Nat)(s:ByteArray)(ao:Option Addr)(cap:Nat)(a:List Int)(w:World)(hi:Ints w ao a)(ha:∀b,ao=some b->a≠[]->b.block<w.heap.size)(ga:∀j,0<=Pm.ap a j/\Pm.ap a j<256)(hs:s.size<=1000000)(hs1:1<=s.size)(hl:1<=lead/\lead<=8): Calls Tryz.prog 74 #[.int .i64 (f:Nat),.string s,.slice ao a.length cap,.int .i64 (lead:Nat)] w fun e w'=>Jm f lead a (fun i=>(ae s i:Int)) s.size w e w':=by
 obtain⟨i0,hi0,hz0,hz1,hz2⟩:=aaX Tryz.info3;generalize hB:w.heap.size=B at *;by_cases hf:4<f
 ·have n0:((f:Int)==0)=false:=by rw[aam];omega
  have n1:((f:Int)==1)=false:=by rw[aam];omega
  have n2:((f:Int)==2)=false:=by rw[aam];omega
  have n3:((f:Int)==3)=false:=by rw[aam];omega
  have n4:((f:Int)==4)=false:=by rw[aam];omega
  have hA:=fun (i:Nat) u=>atR none 0 [] ((i:Int)-(lead:Int)) u (fun j hj=>absurd hj (abY _));have hA2:=fun (i:Nat)=>atR ao cap a (i:Int) w hi;have hA3:=fun (i:Nat)=>atR ao cap a ((i:Int)-(lead:Int)) w hi;have HF:Hid (4<f):=hf;clear hf hi ha ga
  go_enter Tryz.func74,Tryz.ntmps74
  go_wp2
  go_loopw [10,11] (fun ov ix wr=>∃i:Nat,Hid (i=0)/\ov=.slice none 0 0/\ix=.int .i64 i/\wr=w) (fun _ _ _=>1)
  case atStart=>exact⟨0,rfl,rfl,rfl,rfl⟩
  case round =>
   obtain⟨i,Hi,rfl,rfl,rfl⟩:=hrel;have hi1:(i:Int)<(s.size:Int):=by have:=Hi.out;omega
   have hi2:i<=1000000:=by omega
   have hA1:=hA i wr;have Yb:=hA2 i;have Yc:=hA3 i;clear hA hA2 hA3;go_wp2_with fail;refine hA1.mono ?_;rintro e w' ⟨rfl,rfl⟩;go_wp2_with fail;refine Yb.mono ?_;rintro e w' ⟨rfl,rfl⟩;go_wp2_with fail;refine Yc.mono ?_;rintro e w' ⟨rfl,rfl⟩;go_wp2;exact aal (v:=.tuple #[.slice none 0 0,.bool false]) (by simp[results,Tryz.results74,go_sem]) rfl (.no HF.out (aak _ _))
 ·have AY:f<=4:=by omega
  have HF:Hid (f<=4):=AY;have HI:Hid (Ints w ao a):=hi;have HA:Hid (∀b,ao=some b->a≠[]->b.block<B):=ha;clear hi ha
  go_enter Tryz.func74,Tryz.ntmps74
  go_wp2
  go_loopw [10,11] (fun ov ix wr=>∃i:Nat,i<=s.size/\ix=.int .i64 i/\wr.ownsRow B 3 1 ov i (vals (Pm.lq f lead (Pm.ap a) (fun i=>(ae s i:Int)) i))/\Below B w wr) (fun _ ix _=>s.size-(intOf ix).toNat)
  case atStart=>exact⟨0,aaj _,rfl,aba _ _ _ _,aak _ _⟩
  case round =>
   obtain⟨i,hik,rfl,hown,hbl⟩:=hrel;obtain⟨oa,oc,rfl,hoi,hol,hoa⟩:=qj hown;by_cases hlt:i<s.size
   ·have hlt':(i:Int)<(s.size:Int):=by omega
    have hir:Ints wr ao a:=HI.out.below hbl HA.out;have hA1:=atR oa oc _ ((i:Int)-(lead:Int)) wr hoi;have hA2:=atR ao cap a (i:Int) wr hir;have hA3:=atR ao cap a ((i:Int)-(lead:Int)) wr hir;rw[hol]at hA1;rw[Jl]at hA1 hA3;rw[DR]at hA2;have p1:=Pm.kF (fun j=>Pm.o9 f lead (Pm.ap a) (fun i=>(ae s i:Int)) i j) i lead;have p2:=ga i;have p3:=Pm.kF ga i lead;have hnr:=fun u=>TD _ _ _ u p1 p2 p3;have htr:=Pm.qO f p1 p2 p3;have HU:Hid (Pm.lq f lead (Pm.ap a) (fun i=>(ae s i:Int)) (i+1)=Pm.lq f lead (Pm.ap a) (fun i=>(ae s i:Int)) i++[((ae s i:Int)+Pm.dG f (Pm.cS (Pm.ap (Pm.lq f lead (Pm.ap a) (fun i=>(ae s i:Int)) i)) i lead) (Pm.ap a i) (Pm.cS (Pm.ap a) i lead))%256]):=rfl;have bx:=aZ s i;have be:=aY s i hlt;have xi:IntKind.i64.wrap (ae s i:Int)=(ae s i:Int):=aah _ (by omega);obtain⟨U',Yd⟩:∃U',U'=Pm.lq f lead (Pm.ap a) (fun i=>(ae s i:Int)) (i+1):=⟨_,rfl⟩
    rw[<-Yd]at HU;have TU:Hid (U'=Pm.lq f lead (Pm.ap a) (fun i=>(ae s i:Int)) (i+1)):=Yd;clear Yd;generalize Pm.cS (Pm.ap (Pm.lq f lead (Pm.ap a) (fun i=>(ae s i:Int)) i)) i lead=P1 at *;generalize Pm.lq f lead (Pm.ap a) (fun i=>(ae s i:Int)) i=U at *;generalize Pm.cS (Pm.ap a) i lead=P3 at *;generalize Pm.ap a i=P2 at *;have ht:∃T,T=Pm.dG f P1 P2 P3:=⟨_,rfl⟩
    obtain⟨T,hT⟩:=ht;rw[<-hT]at htr HU;have HT:Hid (T=Pm.dG f P1 P2 P3):=hT;clear hT hoi hoa hir;have hfc:f=0\/f=1\/f=2\/f=3\/f=4:=by omega
    rcases hfc with hfe|hfe|hfe|hfe|hfe
    ·have n0:((f:Int)==0)=true:=abs.2 (by omega);have hT:=HT.out;rw[hfe]at hT;simp only[Pm.dG]at hT;clear hfe;subst hT;go_wp2_with fail;refine hA1.mono ?_;rintro e w' ⟨rfl,hw⟩;subst w';go_wp2_with fail;refine hA2.mono ?_;rintro e w' ⟨rfl,hw⟩;subst w';go_wp2_with fail;refine hA3.mono ?_;rintro e w' ⟨rfl,hw⟩;subst w';clear hA1 hA2 hA3;go_wp2_with (first|(go_at_call 109;refine (hnr _).mono ?_;rintro e w' ⟨rfl,hw⟩;subst w')|(at_builtin;refine aax _ rfl _ _ 24 rfl B 3 i0 (.int .i64 0) 1 8 Tryz.underlying24 hi0 hz0 hz1 hz2 rfl (by decide) _ _ _ rfl (hown.alloc _) ⟨wr.heap.size,0,none⟩ 1 1 [_] rfl rfl (aa1 _ _ _) (by intro u hu;simp at hu;subst hu;rfl) (by unfold maxLen;omega) (by omega) (by have:=hbl.size;simp;omega) ?_;intro v' w2 hown' hgrow _))
     have R2:w2.ownsRow B 3 1 v' (i+1) (vals U')/\Below B w w2:=by
      refine⟨?_,(hbl.alloc (by have:=hbl.size;omega) _).grown hgrow (by have:=hbl.size;simp;omega) (fun b hb=>(hown.lt b hb).1)⟩;rw[HU.out];simpa[vals]using hown'
     clear hown' hgrow hown hbl
     (try go_wp2)
     go_roundw
     case rel=>exact⟨i+1,by omega,by go_num,by rw[<-TU.out];exact R2.1,R2.2⟩
     case measure=>simp[intOf];omega
    ·have n0:((f:Int)==0)=false:=by rw[aam];omega
     have n1:((f:Int)==1)=true:=abs.2 (by omega);have hT:=HT.out;rw[hfe]at hT;simp only[Pm.dG]at hT;clear hfe;subst hT;go_wp2_with fail;refine hA1.mono ?_;rintro e w' ⟨rfl,hw⟩;subst w';go_wp2_with fail;refine hA2.mono ?_;rintro e w' ⟨rfl,hw⟩;subst w';go_wp2_with fail;refine hA3.mono ?_;rintro e w' ⟨rfl,hw⟩;subst w';clear hA1 hA2 hA3;go_wp2_with (first|(go_at_call 109;refine (hnr _).mono ?_;rintro e w' ⟨rfl,hw⟩;subst w')|(at_builtin;refine aax _ rfl _ _ 24 rfl B 3 i0 (.int .i64 0) 1 8 Tryz.underlying24 hi0 hz0 hz1 hz2 rfl (by decide) _ _ _ rfl (hown.alloc _) ⟨wr.heap.size,0,none⟩ 1 1 [_] rfl rfl (aa1 _ _ _) (by intro u hu;simp at hu;subst hu;rfl) (by unfold maxLen;omega) (by omega) (by have:=hbl.size;simp;omega) ?_;intro v' w2 hown' hgrow _))
     have R2:w2.ownsRow B 3 1 v' (i+1) (vals U')/\Below B w w2:=by
      refine⟨?_,(hbl.alloc (by have:=hbl.size;omega) _).grown hgrow (by have:=hbl.size;simp;omega) (fun b hb=>(hown.lt b hb).1)⟩;rw[HU.out];simpa[vals]using hown'
     clear hown' hgrow hown hbl
     (try go_wp2)
     go_roundw
     case rel=>exact⟨i+1,by omega,by go_num,by rw[<-TU.out];exact R2.1,R2.2⟩
     case measure=>simp[intOf];omega
    ·have n0:((f:Int)==0)=false:=by rw[aam];omega
     have n1:((f:Int)==1)=false:=by rw[aam];omega
     have n2:((f:Int)==2)=true:=abs.2 (by omega);have hT:=HT.out;rw[hfe]at hT;simp only[Pm.dG]at hT;clear hfe;subst hT;go_wp2_with fail;refine hA1.mono ?_;rintro e w' ⟨rfl,hw⟩;subst w';go_wp2_with fail;refine hA2.mono ?_;rintro e w' ⟨rfl,hw⟩;subst w';go_wp2_with fail;refine hA3.mono ?_;rintro e w' ⟨rfl,hw⟩;subst w';clear hA1 hA2 hA3;go_wp2_with (first|(go_at_call 109;refine (hnr _).mono ?_;rintro e w' ⟨rfl,hw⟩;subst w')|(at_builtin;refine aax _ rfl _ _ 24 rfl B 3 i0 (.int .i64 0) 1 8 Tryz.underlying24 hi0 hz0 hz1 hz2 rfl (by decide) _ _ _ rfl (hown.alloc _) ⟨wr.heap.size,0,none⟩ 1 1 [_] rfl rfl (aa1 _ _ _) (by intro u hu;simp at hu;subst hu;rfl) (by unfold maxLen;omega) (by omega) (by have:=hbl.size;simp;omega) ?_;intro v' w2 hown' hgrow _))
     have R2:w2.ownsRow B 3 1 v' (i+1) (vals U')/\Below B w w2:=by
      refine⟨?_,(hbl.alloc (by have:=hbl.size;omega) _).grown hgrow (by have:=hbl.size;simp;omega) (fun b hb=>(hown.lt b hb).1)⟩;rw[HU.out];simpa[vals]using hown'
     clear hown' hgrow hown hbl
     (try go_wp2)
     go_roundw
     case rel=>exact⟨i+1,by omega,by go_num,by rw[<-TU.out];exact R2.1,R2.2⟩
     case measure=>simp[intOf];omega
    ·have n0:((f:Int)==0)=false:=by rw[aam];omega
     have n1:((f:Int)==1)=false:=by rw[aam];omega
     have n2:((f:Int)==2)=false:=by rw[aam];omega
     have n3:((f:Int)==3)=true:=abs.2 (by omega);have hT:=HT.out;rw[hfe]at hT;simp only[Pm.dG]at hT;clear hfe;subst hT;go_wp2_with fail;refine hA1.mono ?_;rintro e w' ⟨rfl,hw⟩;subst w';go_wp2_with fail;refine hA2.mono ?_;rintro e w' ⟨rfl,hw⟩;subst w';go_wp2_with fail;refine hA3.mono ?_;rintro e w' ⟨rfl,hw⟩;subst w';clear hA1 hA2 hA3;go_wp2_with (first|(go_at_call 109;refine (hnr _).mono ?_;rintro e w' ⟨rfl,hw⟩;subst w')|(at_builtin;refine aax _ rfl _ _ 24 rfl B 3 i0 (.int .i64 0) 1 8 Tryz.underlying24 hi0 hz0 hz1 hz2 rfl (by decide) _ _ _ rfl (hown.alloc _) ⟨wr.heap.size,0,none⟩ 1 1 [_] rfl rfl (aa1 _ _ _) (by intro u hu;simp at hu;subst hu;rfl) (by unfold maxLen;omega) (by omega) (by have:=hbl.size;simp;omega) ?_;intro v' w2 hown' hgrow _))
     have R2:w2.ownsRow B 3 1 v' (i+1) (vals U')/\Below B w w2:=by
      refine⟨?_,(hbl.alloc (by have:=hbl.size;omega) _).grown hgrow (by have:=hbl.size;simp;omega) (fun b hb=>(hown.lt b hb).1)⟩;rw[HU.out];simpa[vals]using hown'
     clear hown' hgrow hown hbl
     (try go_wp2)
     go_roundw
     case rel=>exact⟨i+1,by omega,by go_num,by rw[<-TU.out];exact R2.1,R2.2⟩
     case measure=>simp[intOf];omega
    ·have n0:((f:Int)==0)=false:=by rw[aam];omega
     have n1:((f:Int)==1)=false:=by rw[aam];omega
     have n2:((f:Int)==2)=false:=by rw[aam];omega
     have n3:((f:Int)==3)=false:=by rw[aam];omega
     have n4:((f:Int)==4)=true:=abs.2 (by omega);have hT:=HT.out;rw[hfe]at hT;simp only[Pm.dG]at hT;clear hfe;subst hT;go_wp2_with fail;refine hA1.mono ?_;rintro e w' ⟨rfl,hw⟩;subst w';go_wp2_with fail;refine hA2.mono ?_;rintro e w' ⟨rfl,hw⟩;subst w';go_wp2_with fail;refine hA3.mono ?_;rintro e w' ⟨rfl,hw⟩;subst w';clear hA1 hA2 hA3;go_wp2_with (first|(go_at_call 109;refine (hnr _).mono ?_;rintro e w' ⟨rfl,hw⟩;subst w')|(at_builtin;refine aax _ rfl _ _ 24 rfl B 3 i0 (.int .i64 0) 1 8 Tryz.underlying24 hi0 hz0 hz1 hz2 rfl (by decide) _ _ _ rfl (hown.alloc _) ⟨wr.heap.size,0,none⟩ 1 1 [_] rfl rfl (aa1 _ _ _) (by intro u hu;simp at hu;subst hu;rfl) (by unfold maxLen;omega) (by omega) (by have:=hbl.size;simp;omega) ?_;intro v' w2 hown' hgrow _))
     have R2:w2.ownsRow B 3 1 v' (i+1) (vals U')/\Below B w w2:=by
      refine⟨?_,(hbl.alloc (by have:=hbl.size;omega) _).grown hgrow (by have:=hbl.size;simp;omega) (fun b hb=>(hown.lt b hb).1)⟩;rw[HU.out];simpa[vals]using hown'
     clear hown' hgrow hown hbl
     (try go_wp2)
     go_roundw
     case rel=>exact⟨i+1,by omega,by go_num,by rw[<-TU.out];exact R2.1,R2.2⟩
     case measure=>simp[intOf];omega
   ·have hie:i=s.size:=by omega
    subst hie;have h4:(f:Int)<=4:=by omega
    have HE:Hid (_/\_):=⟨hown,hbl⟩
    clear hoi hoa hown hbl;go_wp2;exact aal (v:=.tuple #[.slice oa s.size oc,.bool true]) (by simp[results,Tryz.results74,go_sem]) rfl (.ok HF.out (by rw[hB];exact HE.out.1) (by rw[hB];exact HE.out.2))
theorem Aa {a b:List Int}(hl:a.length=b.length)(h:∀j,j<a.length->Pm.ap a j=Pm.ap b j):a=b:=by
 refine abt hl fun j h1 h2=>?_;have:=h j h1;unfold Pm.ap at this;rw[aaa,aaa,aai h1,aai h2]at this;exact this
theorem mK (a:List Int)(i j:Nat)(v:Int)(hi:i<a.length):Pm.ap (a.set i v) j=if j=i then v else Pm.ap a j:=by
 unfold Pm.ap;rw[aaa,aaa,List.getElem?_set];by_cases h:i=j
 ·subst h;simp[hi]
 ·rw[aae h,aae (fun e=>h e.symm)]
theorem cQ (w:World)(b j:Nat)(u:Value)(g:Nat)(h:g≠b):(w.setCell ⟨b,j,none⟩ u).heap[g]?=w.heap[g]?:=aag w ⟨b,j,none⟩ u g h
theorem Mu:∀(x:Fin 256),bits .and .i64 ((x.val:Nat):Int) 1=((x.val%2:Nat):Int)/\bits .and .i64 ((x.val:Nat):Int) 3=((x.val%4:Nat):Int)/\bits .and .i64 ((x.val:Nat):Int) 15=((x.val%16:Nat):Int)/\bits .and .i64 ((x.val:Nat):Int) 255=((x.val%256:Nat):Int):=by decide +kernel
theorem xQ (W ht n j:Nat)(kd dp:Int)(ps:Bool)(pv sv:Value)(p:Pm.Ps)(w:World)(hn:Pm.chan kd dp=(n:Int))(hW:W<=5000)(hj:j<=5000)(h0:p.c0<=8/\p.r0<=8/\p.rs<=8)(hn4:n<=4): Calls Tryz.prog 133 #[img W ht kd dp ps pv sv,.agg #[.int .i64 (p.c0:Nat),.int .i64 (p.r0:Nat),.int .i64 (p.cs:Nat),.int .i64 (p.rs:Nat),.int .i64 (p.C:Nat),.int .i64 (p.R:Nat)],.int .i64 (j:Nat)] w fun e w' =>
   e=.returned (.int .i64 ((Pm.iz p W n j:Nat):Int))/\Below w.heap.size w w':=by
 obtain⟨c0,r0,cs,rs,C,R⟩:=p;simp only at h0 ⊢;have a1:j*rs<=5000*8:=aaA hj h0.2.2;have a2:(r0+j*rs)*W<=40008*5000:=aaA (by omega) hW;have a3:((r0+j*rs)*W+c0)*n<=200040008*4:=aaA (by omega) hn4;have e1:(j:Int)*(rs:Int)=((j*rs:Nat):Int):=by push_cast;rfl
 obtain⟨A,hA⟩:∃A,A=j*rs:=⟨_,rfl⟩
 rw[<-hA]at a1 a2 a3 e1;have e2:((r0:Int)+(A:Int))*(W:Int)=(((r0+A)*W:Nat):Int):=by push_cast;rfl
 obtain⟨B,hB⟩:∃B,B=(r0+A)*W:=⟨_,rfl⟩
 rw[<-hB]at a2 a3 e2;have e3:((B:Int)+(c0:Int))*(n:Int)=(((B+c0)*n:Nat):Int):=by push_cast;rfl
 have HF:Hid (Pm.iz ⟨c0,r0,cs,rs,C,R⟩ W n j=(B+c0)*n):=by show _=_;unfold Pm.iz;rw[hB,hA]
 obtain⟨D,hD⟩:∃D,D=(B+c0)*n:=⟨_,rfl⟩
 rw[<-hD]at a3 e3 HF;have hch:=fun u=>oD kd dp u;rw[hn]at hch;clear hA hB hD
 go_enter Tryz.func133,Tryz.ntmps133
 go_wp2_with fail;refine (hch _).mono ?_;rintro e w' ⟨rfl,rfl⟩;go_wp2
 go_ret
 exact⟨aC (by rw[HF.out]),((aak _ _).alloc (aad _) _).alloc (by simp) _⟩
abbrev TV (p:Pm.Ps):Value:=.agg #[.int .i64 (p.c0:Nat),.int .i64 (p.r0:Nat),.int .i64 (p.cs:Nat),.int .i64 (p.rs:Nat),.int .i64 (p.C:Nat),.int .i64 (p.R:Nat)]
theorem DS {w:World}{T:Nat}{a b c d e f:Value}{t:TypeId}(h:w.heap[T]?=some (.cells #[a,b,c,d,e,f] t (0,0))): w.cell? ⟨T,0,none⟩=some a/\w.cell? ⟨T,1,none⟩=some b/\w.cell? ⟨T,2,none⟩=some c/\w.cell? ⟨T,3,none⟩=some d/\w.cell? ⟨T,4,none⟩=some e/\w.cell? ⟨T,5,none⟩=some f/\T<w.heap.size :=
 ⟨aan _ _ _ _ _ _ h,aan _ _ _ _ _ _ h,aan _ _ _ _ _ _ h,aan _ _ _ _ _ _ h,aan _ _ _ _ _ _ h,aan _ _ _ _ _ _ h,aab h⟩
theorem nD (kd:Int)(dp:Nat)(h:Pm.chan kd dp≠0):dp=1\/dp=2\/dp=4\/dp=8\/dp=16:=by
 unfold Pm.chan at h
 repeat' split at h
 all_goals omega
theorem BW (n:Nat)(hn:n<=1000000000)(Z:List Value)(hZ:Z=List.replicate n (.int .u8 0))(u:World): (Instr.makeSlice 107 (.int .i64 (n:Int)) (.int .i64 (n:Int))).run Tryz.prog u=.ok (.slice (some ⟨u.heap.size,0,none⟩) n n) (u.alloc (.cells Z.toArray 5)):=by
 obtain⟨i0,hi,hz0,hz1,hz2⟩:=aaX Tryz.info5;have h:=run_make (P:=Tryz.prog) u 107 5 i0 (.int .u8 0) Tryz.underlying107 hi hz0 .i64 .i64 (n:Int) (n:Int) (by omega) (abj _) (by rw[hz2];omega) (by omega)
 have e2:(madeCells #[Value.int .u8 0] n)=Z.toArray:=by
  rw[hZ,<-ab7]
 simpa[hz1,Value.cells,e2]using h
theorem PX {P F:Nat->Nat->World->Prop}{G:Prop}(h1:(∀a b u,F a b u->P a b u)->G)(h2:∀a b u,F a b u->P a b u):G:=h1 h2
abbrev aH (W H:Nat)(kd:Int)(dp:Nat)(ps:Bool)(pv sv:Value):Array Value:=#[.int .i64 (W:Nat),.int .i64 (H:Nat),.int .i64 kd,.int .i64 (dp:Nat),.bool ps,pv,sv]
theorem qU (T:ByteArray)(q i:Nat)(h:q+i<T.size):ae (T.extract q T.size) i=ae T (q+i):=iP T q T.size i h (aad _)
theorem tail_size (T:ByteArray)(q:Nat):(T.extract q T.size).size=T.size-q:=by rw[aa7];omega
theorem FB (T:ByteArray)(q d:Nat)(_h:q+d<=T.size):(T.extract q T.size).extract d (T.extract q T.size).size=T.extract (q+d) T.size:=by
 rw[tail_size,ByteArray.extract_extract]
 congr 1
 omega
theorem t7 (W H n dp:Nat)(hn:1<=n/\n<=4)(hdp:dp=1\/dp=2\/dp=4\/dp=8\/dp=16):1<=Pm.cD.lead ⟨W,H,n,dp⟩/\Pm.cD.lead ⟨W,H,n,dp⟩<=8:=by
 unfold Pm.cD.lead Pm.cD.bits;dsimp only;have h1:n*dp<=4*16:=aaA hn.2 (by omega);have h2:1*1<=n*dp:=aaA hn.1 (by omega);omega
theorem TW (k:Nat)(hk:k<7)(w:World):(Instr.index 178 (.agg dL) (.int .i64 (k:Int))).run Tryz.prog w=.ok (xL (Pm.kD k:Nat) (Pm.jz k:Nat) (Pm.jD k:Nat) (Pm.jE k:Nat)) w:=by
 match k,hk with
 | 0,_=>exact DF w
 | 1,_=>exact DG w
 | 2,_=>exact DH w
 | 3,_=>exact DI w
 | 4,_=>exact DJ w
 | 5,_=>exact DL w
 | 6,_=>exact DM w
theorem Jn (k:Nat):Pm.kD k<=4/\Pm.jz k<=4/\(1<=Pm.jD k/\Pm.jD k<=8)/\(1<=Pm.jE k/\Pm.jE k<=8):=by
 refine⟨?_,?_,⟨?_,?_⟩,?_,?_⟩
 ·unfold Pm.kD;split<;>omega
 ·unfold Pm.jz;split<;>omega
 ·unfold Pm.jD;split<;>omega
 ·unfold Pm.jD;split<;>omega
 ·unfold Pm.jE;split<;>omega
 ·unfold Pm.jE;split<;>omega
theorem Ab (s t e:Nat)(h:s<t):(e+(t-1-s))/t<=e:=by
 rcases Nat.eq_zero_or_pos ((e+(t-1-s))/t) with h0|h0
 ·omega
 ·have:=Pm.tF s t e ((e+(t-1-s))/t-1) h (by omega);have h2:((e+(t-1-s))/t-1)*1<=((e+(t-1-s))/t-1)*t:=Nat.mul_le_mul_left _ (by omega);omega
theorem mL (w:World)(o0 o1 o2:Obj):Below w.heap.size w (((w.alloc o0).alloc o1).alloc o2)/\(((w.alloc o0).alloc o1).alloc o2).heap[w.heap.size]?=some o0/\(((w.alloc o0).alloc o1).alloc o2).heap[w.heap.size+1]?=some o1/\(((w.alloc o0).alloc o1).alloc o2).heap[w.heap.size+2]?=some o2:=by
 obtain⟨k0,q0,q1⟩:=bO w o0 o1;have q2:=ak ((w.alloc o0).alloc o1) o2;rw[aaC,aaC]at q2;exact⟨k0.alloc (by simp;omega) _,aw q0 _,aw q1 _,q2⟩
theorem FC (W H n dp:Nat)(kd:Int)(hch:Pm.chan kd dp=(n:Int))(hn:1<=n):max (((n*dp:Nat):Int)/8) 1=((Pm.cD.lead ⟨W,H,n,dp⟩:Nat):Int):=by
 unfold Pm.cD.lead Pm.cD.bits;dsimp only;unfold Pm.chan at hch
 repeat' split at hch
 ·obtain rfl:n=1:=by omega
  rename_i h;obtain⟨_,h⟩:=h;omega
 ·obtain rfl:n=3:=by omega
  rename_i h;obtain⟨_,h⟩:=h;omega
 ·obtain rfl:n=1:=by omega
  rename_i h;obtain⟨_,h⟩:=h;omega
 ·obtain rfl:n=2:=by omega
  rename_i h;obtain⟨_,h⟩:=h;omega
 ·obtain rfl:n=4:=by omega
  rename_i h;obtain⟨_,h⟩:=h;omega
 ·omega
theorem TY (W H n dp:Nat)(kd:Int)(ps:Bool)(pv sv:Value)(w:World)(hch:Pm.chan kd dp=(n:Int))(hn:1<=n): Calls Tryz.prog 101 #[img W H kd dp ps pv sv] w fun e w'=>e=.returned (.int .i64 ((Pm.cD.lead ⟨W,H,n,dp⟩:Nat):Int))/\Below w.heap.size w w':=by
 have hpb:=fun u=>DE W H kd dp ps pv sv u (by rw[hch];omega);have hl:=FC W H n dp kd hch hn;have hbd:=Pm.mq kd dp (by rw[hch];omega);have e1:Pm.chan kd dp*(dp:Int)=((n*dp:Nat):Int):=by rw[hch];push_cast;rfl
 rw[e1]at hpb hbd;have HL:Hid (_):=hl;generalize n*dp=b at *;have k0:=ag w (.cells #[.int .i64 (W:Nat),.int .i64 (H:Nat),.int .i64 kd,.int .i64 (dp:Nat),.bool ps,pv,sv] 30);clear hl e1
 go_enter Tryz.func101,Tryz.ntmps101
 go_wp2_with fail;refine (hpb _).mono ?_;rintro e w1 ⟨rfl,b1⟩;have HB:Hid (Below w.heap.size w w1):=k0.trans (b1.mono (by simp));clear b1 hpb k0;go_wp2
 all_goals go_ret
 all_goals exact⟨aC (by have:=HL.out;omega),HB.out⟩
def jO (n m:Int):Bool:=decide (n%3=0)&&(decide (1<=n/3)&&decide (n/3<=m))
def fF (kd dp:Int):Option ByteArray->Bool
 | none=>!(kd==3)
 | some p=>if kd=0\/kd=4 then false else if kd=3 then jO p.size (Pm.two dp) else jO p.size 256
theorem PY (n:Nat)(hn:n<=1000000000)(Z:List Value)(hZ:Z=List.replicate n (.int .i64 0))(u:World): (Instr.makeSlice 24 (.int .i64 (n:Int)) (.int .i64 (n:Int))).run Tryz.prog u = .ok (.slice (some ⟨u.heap.size,0,none⟩) n n) (u.alloc (.cells Z.toArray 3)):=by
 obtain⟨i0,hi,hz0,hz1,hz2⟩:=aaX Tryz.info3;have h:=run_make (P:=Tryz.prog) u 24 3 i0 (.int .i64 0) Tryz.underlying24 hi hz0 .i64 .i64 (n:Int) (n:Int) (by omega) (abj _) (by rw[hz2];omega) (by omega)
 have e2:(madeCells #[Value.int .i64 0] n)=Z.toArray:=by
  rw[hZ,<-ab7]
 simpa[hz1,Value.cells,e2]using h
def qk (p:ByteArray):List Int:=(List.range p.size).map fun j=>(ae p j:Int)
def mM (h:Hd):Int:=Pm.raw h.wd h.ht (Pm.chan h.kd h.dp*h.dp) h.ps
def gT (h:Hd):Pm.cD:=⟨h.wd.toNat,h.ht.toNat,(Pm.chan h.kd h.dp).toNat,h.dp.toNat⟩
def jP (kd:Int)(p:Option ByteArray):List Int:=if kd=3 then qk (p.getD ⟨#[]⟩) else []
theorem iR (nm:List UInt8):∀L:List Ch,(cK nm L).size<=mH L
 | []=>aad _
 | c::r=>by
  have ih:=iR nm r;have e:mH (c::r)=c.data.size+mH r:=by simp[mH]
  rw[gx,e];split
  ·rw[ByteArray.size_append];omega
  ·omega
theorem mN (p:ByteArray):(qk p).length=p.size:=by simp[qk]
theorem Jo (c:Nat)(w:World): Calls Tryz.prog 70 #[.int .u8 c] w fun e w'=>e=.returned (.bool (c9 c))/\w'=w:=by
 go_enter Tryz.func70,Tryz.ntmps70
 go_wp2
 all_goals go_ret
 all_goals refine⟨aG ?_,rfl⟩
 all_goals (unfold c9;rw[aa3];simp_all;try omega)
end
end Go.Proofs.YtmfijackgekioaaGreatDoor
