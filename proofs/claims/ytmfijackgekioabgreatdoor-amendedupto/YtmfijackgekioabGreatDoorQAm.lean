import Derived.Test.YtmfijackgekioabGreatDoorQ47
import Derived.Test.YtmfijackgekioabGreatDoorQ01
import Derived.JoinedCond
set_option maxHeartbeats 16000000
set_option maxRecDepth 100000
namespace Go.Proofs.YtmfijackgekioabGreatDoor
section
open Go.RowKit Go.Maps
theorem adp {P F:Nat->Option Addr->Nat->Option Addr->Nat->World->Prop}{G:Prop}(h1:(∀a b c d e u,F a b c d e u->P a b c d e u)->G)(h2:∀a b c d e u,F a b c d e u->P a b c d e u):G:=h1 h2
theorem adq {P F:Nat->World->Prop}{G:Prop}(h1:(∀a u,F a u->P a u)->G)(h2:∀a u,F a u->P a u):G:=h1 h2
def Off (w:World)(R:Nat)(v:Value)(l:List Int):Prop:=∀w':World,(∀g,g≠R->w'.heap[g]?=w.heap[g]?)->∃B,fC w' B v l
theorem Off.b {w:World}{B R:Nat}{v:Value}{l:List Int}(h:fC w B v l)(hR:R<B):Off w R v l:=fun _ hk=>⟨B,h.far (fun g hg _=>hk g (by omega))⟩
theorem Off.a {w:World}{B:Nat}{v:Value}{l:List Int}(h:fC w B v l)(o:Obj):Off (w.alloc o) w.heap.size v l:=fun _ hk=>⟨B,h.far (fun g _ hg=>(hk g (by omega)).trans ((ae w o).block g hg))⟩
structure ac4 (w0 u:World) (R:Nat):Prop where
 k:Below w0.heap.size w0 u
 r:u.heap[R]?=some (.cells bk 24 (0,0))
 lo:w0.heap.size<=R
theorem ac4.new {w0 v:World}(k:Below w0.heap.size w0 v):∃(R:Nat) (U:World),R=v.heap.size/\U=v.alloc (.cells #[.int .i64 0,.int .i64 0,.int .i64 0,.int .i64 0,.bool false,.slice none 0 0,.slice none 0 0] 24)/\ac4 w0 U R/\∀B x l,fC v B x l->Off U R x l :=
 ⟨_,_,rfl,rfl,⟨k.trans ((ae v _).mono k.size),ah v _,k.size⟩,fun _ _ _ h=>Off.a h _⟩
theorem ac4.next {w0 u v:World}{R:Nat}(b:ac4 w0 u R)(k:Below u.heap.size u v):ac4 w0 v R:=⟨b.k.trans (k.mono b.k.size),(k.block _ (aaa b.r)).trans b.r,b.lo⟩
theorem adh {D:ByteArray}{limit:Int}{u v:World}{e:Ending}{h:Hd}{aq S:List Int}(he:LQ D limit u e v)(hd:dm D limit=.ok ⟨h,aq,S⟩): ∃(pa:Option Addr) (pc:Nat) (sa:Option Addr) (sc:Nat),e=.returned (.tuple #[.agg (bq h (.slice pa aq.length pc) (.slice sa S.length sc)),.int .i64 0])/\fC v u.heap.size (.slice pa aq.length pc) aq/\fC v u.heap.size (.slice sa S.length sc) S/\Below u.heap.size u v:=by
 cases he with
 | no h1 b1=>rw[hd]at h1;cases h1
 | @ok _ R pv sv h1 lp ls _ b1 =>
  have eR:R=⟨h,aq,S⟩:=by rw[hd]at h1;injection h1 with h1;exact h1.symm
  subst eR;obtain⟨pa,pc,rfl,_,_⟩:=lp.nums;obtain⟨sa,sc,rfl,_,_⟩:=ls.nums;exact⟨pa,pc,sa,sc,rfl,lp,ls,b1⟩
theorem adi {D:ByteArray}{limit c:Int}{u v:World}{e:Ending}(he:LQ D limit u e v)(hd:dm D limit=.error c):e=.returned (.tuple #[.agg bk,.int .i64 c])/\Below u.heap.size u v:=by
 cases he with
 | @no _ c' h1 b1 =>
  have ec:c'=c:=by rw[hd]at h1;injection h1 with h1;exact h1.symm
  subst ec;exact⟨rfl,b1⟩
 | ok h1=>rw[hd]at h1;cases h1
structure AmF (w0:World) (h:Hd) (aq S:List Int) (R:Nat) (pv sv:Value) (u:World):Prop where
 k:Below w0.heap.size w0 u
 lo:w0.heap.size<=R
 r:u.heap[R]?=some (.cells (bq h pv sv) 24 (0,0))
 l1:∃B,fC u B pv aq
 l2:∃B,fC u B sv S
theorem ac4.end_ {w0 u:World}{R:Nat}{h:Hd}{aq S:List Int}{pv sv:Value}(bx:ac4 w0 u R)(o1:Off u R pv aq)(o2:Off u R sv S):AmF w0 h aq S R pv sv (l6 u R (.int .i64 h.wd) (.int .i64 h.ht) (.int .i64 h.kd) (.int .i64 h.dp) (.bool h.ps) pv sv) :=
 ⟨fV bx.k _ bx.lo ..,bx.lo,js bx.r ..,o1 _ (fun _ hg=>jt _ _ _ _ _ _ _ _ _ _ hg),o2 _ (fun _ hg=>jt _ _ _ _ _ _ _ _ _ _ hg)⟩
theorem aeU (kind width rg:Int)(ps:Bool)(ra:Option Addr)(rc:Nat)(raw:List Int)(chunk ac5 name:Int)(data:ByteArray)(w:World)(hk:I64 kind)(hw:I64 width)(hh:I64 rg)(hck:I64 chunk)(hwh:I64 ac5)(hnm:I64 name)(hds:data.size<=1048576)(hraw:Ints w ra raw)(hra:∀a,ra=some a->raw≠[]->a.block<w.heap.size)(UN:∀y∈raw,I64 y)(hrl:raw.length<=9223372036854775807)(tt:TypeId)(fr:Nat×Nat)(jI:w.heap[0]?=some (.cells cX tt fr)): Calls Tryz.prog 5 #[.int .i64 kind,.int .i64 width,.int .i64 rg,.bool ps,.slice ra raw.length rc,.int .i64 chunk,.int .i64 ac5,.int .i64 name,.string data] w fun e w'=>e=.returned (.bool true)/\Below w.heap.size w w':=by
 have hpi:=Yq kind width rg ps ra rc raw w hk hw hh hraw hra UN hrl;have hse:=fun u=>Yp 2 5 chunk u ⟨by omega,by omega⟩ ⟨by omega,by omega⟩ hck;have hr3:=bE chunk (n:=300) (by omega);have hpw:=fun (n:Int) (u:World) (h1:0<n) (h2:n<=9223372036854775807)=>oA ac5 n u hwh.1 hwh.2 h1 h2;have hpn:=fun (u:World)=>oA name 4 u hnm.1 hnm.2 (by omega) (by omega);have hrn:=bE name (n:=4) (by omega);obtain⟨ix,hix⟩:∃k:Nat,cL name 4=(k:Int):=⟨(cL name 4).toNat,by omega⟩
 rw[hix]at hpn hrn;have adr:ix<4:=by omega
 obtain⟨X,hX⟩:∃X:ByteArray,X=⟨(xL ix).toArray⟩:=⟨_,rfl⟩
 have HRC:Hid (∀U:World,(U.alloc (.cells #[.string ⟨#[69,88,116]⟩,.string ⟨#[101,120,116]⟩,.string ⟨#[73,68,65]⟩,.string ⟨#[122,122,122]⟩] 9)).cell? ⟨U.heap.size,ix,none⟩=some (.string X)):=fun U=>by
  rw[aat _ _ _ _ _ _ (ah U _),hX];exact Zq adr
 have HX:Hid (X=⟨(xL ix).toArray⟩):=hX;clear hX;have HPW:Hid (_):=hpw;have HPN:Hid (_):=hpn;have HTB:Hid (_):=jI;obtain⟨L,hL⟩:∃L,L=raw.length:=⟨_,rfl⟩
 rw[<-hL]at hpi ⊢;obtain⟨A,hA⟩:∃A,A=cL 2 3:=⟨_,rfl⟩
 obtain⟨Fl,hFl⟩:∃Fl,Fl=cL 5 6:=⟨_,rfl⟩
 obtain⟨C,hC⟩:∃C,C=1+cL chunk 300:=⟨_,rfl⟩
 rw[<-hA,<-hFl,<-hC]at hse;have hCb:C<=300:=by omega
 clear hraw hra UN hrl jI hL hA hFl hC hk hw hh hck hwh hnm hr3 hpw hpn hrn hix
 go_enter Tryz.func5,Tryz.ntmps5
 go_wp2_with fail;refine hpi.mono ?_;rintro e w2 ⟨h,aq,S,pa,pc,G,cap,rfl,hpf,hps,hsm,i1,i2,i3,hG,hcap,hlen,B2⟩;have ka:=ae w2 (.cells (bq h (.slice pa aq.length pc) (.slice (some ⟨G,0,none⟩) S.length cap)) 24);have q:=ah w2 (.cells (bq h (.slice pa aq.length pc) (.slice (some ⟨G,0,none⟩) S.length cap)) 24);have B3:=B2.trans (ka.mono B2.size);have MJ:Hl w2 pa aq (some ⟨G,0,none⟩) S tt fr:=⟨(B2.block _ (aaa HTB.out)).trans HTB.out,i1,i2,by unfold maxLen;omega,i3,fun a ha _=>(by have e:=aaH ha;rw[<-e];exact hG),by unfold maxLen;omega⟩
 have hl3:=MJ.later ka;have ada:=Ej h hpf.hd hsm.1 hsm.2;have z3:(w2.alloc (.cells (bq h (.slice pa aq.length pc) (.slice (some ⟨G,0,none⟩) S.length cap)) 24)).heap.size=w2.heap.size+1:=by simp
 obtain⟨x0,x1,x2,x3,x4,x5,x6⟩:=aP q;have HH:Hid (_/\_/\_/\_/\_/\_/\_/\_):=⟨hl3,q,B3,hpf,hcap,ada,hlen,hG⟩
 clear MJ hl3 B2 B3 hpf hps hsm i1 i2 i3 hpi ka hcap ada hlen;go_wp2_with fail;generalize hw4:w2.alloc (.cells (bq h (.slice pa aq.length pc) (.slice (some ⟨G,0,none⟩) S.length cap)) 24)=w4 at *;have hS:w4.drew.heap[w2.heap.size]?=some (.cells (bq h (.slice pa aq.length pc) (.slice (some ⟨G,0,none⟩) S.length cap)) 24 (0,0)):=q;clear q x0 x1 x2 x3 x4 x5 x6;refine ax (fun u=>u.heap[w2.heap.size]?=some (.cells (bq h (.slice pa aq.length pc) (.slice (some ⟨G,0,none⟩) S.length cap)) 24 (0,0))) 99 ?_;refine ap [0,1] ?_
 iterate 2 (refine bU (v:=?_) (T:=?_) ?ht ?hy hS ?_;(case hy=>intro w hSw;have xr := aP hSw; go_simp;try with_reducible rfl);case ht=>go_simp;try with_reducible rfl)
 refine aj ?_;refine ag 2 fun K hK=>?_;go_simp;refine (hse _).mono ?_;rintro e w5 ⟨rfl,hset,b5⟩;have Ih:Below w4.heap.size w4 w5:=((aav _ w4).drew).trans b5;have zz5:=Ih.size;have q5:=(Ih.block _ (by omega)).trans HH.out.2.1;have B5:=HH.out.2.2.1.trans (Ih.mono HH.out.2.2.1.size);have hl5:=HH.out.1.later Ih;obtain⟨_,_,_,hpf,hcap,ada,hlen,hG⟩:=HH.out;have hfi:=afa h A Fl C aq S pa pc G cap w5 tt fr hl5 (by omega) hcap hpf hset hCb (by omega) hlen.1;have HH5:Hid (_/\_/\_):=⟨hl5,q5,B5⟩
 refine hK _ _ (fun _=>q5) ?_;clear hK K b5 Ih hl5 q5 B5 hset hse hS hpf hcap ada hlen hG;refine ag 3 fun K hK=>?_;go_simp;refine hfi.mono ?_;rintro e w6 ⟨b,ds,B,ao,cp,rfl,own,hB,f1,f2,f3,f4,f5,b6⟩;obtain⟨hl5,q5,B5⟩:=HH5.out;have zz6:=b6.size;have q6:=(b6.block w2.heap.size (by omega)).trans q5;have B6:=B5.trans (b6.mono B5.size);have hl6:=hl5.later b6;have hlen:=HH.out.2.2.2.2.2.2.1;obtain⟨g,rfl,_,hgl,hpl⟩:=QK own;obtain⟨s1,s2,s3⟩:=UT (h:=h) (aq:=aq) (ds:=ds) (by omega) f3;have hne:1<=ds.length:=List.length_pos_iff.2 f2;obtain⟨m,hm⟩:∃m,(iK 8 (bj h aq ds)).length=m+2:=⟨(iK 8 (bj h aq ds)).length-2,by rw[yS,IP];omega⟩
 have hm1:2+(if h.kd=3 then 1 else 0)<=m/\m+1=(bj h aq ds).length:=by
  have e:=hm;rw[yS]at e;have e2:=IP h aq ds;exact⟨by omega,by omega⟩
 rw[hm,show m+2-2=m by omega]at s2;have hmm:2<=m:=abe (Nat.le_add_right _ _) hm1.1;obtain⟨p1,hp1⟩:∃p,p=8+(aH [⟨aE cI,aY h⟩]).length:=⟨_,rfl⟩
 obtain⟨p2,hp2⟩:∃p,p=8+(aH (⟨aE cI,aY h⟩::(yY h aq++eW ds))).length:=⟨_,rfl⟩
 obtain⟨p3,hp3⟩:∃p,p=8+(aH [⟨aE cI,aY h⟩,⟨aE cP,ct aq⟩]).length:=⟨_,rfl⟩
 rw[<-hp1]at s1;rw[<-hp2]at s2;rw[<-hp3]at s3;have c1:w6.cell? ⟨g,1,none⟩=some (.int .i64 (p1:Int)):=by rw[hpl 1 (by omega),s1]
 have c2:w6.cell? ⟨g,m,none⟩=some (.int .i64 (p2:Int)):=by rw[hpl m (by omega),s2]
 have c3:h.kd=3->w6.cell? ⟨g,2,none⟩=some (.int .i64 (p3:Int)):=fun h3=>by rw[hpl 2 (by omega),s3 h3]
 have hSL:spL h aq ds=[(p1:Int),(p2:Int)]++(if h.kd=3 then [(p3:Int)] else []):=by rw[hp1,hp2,hp3];rfl
 have zk:Hid (_/\_/\_):=⟨hl6,q6,B6⟩
 have HCC:Hid (_/\_/\_):=⟨c3,hgl,hSL⟩
 have HFF:Hid (_/\_/\_/\_/\_):=⟨f1,f2,f3,f4,f5⟩
 rw[hm]
 have hm9:m<=1000000:=by
  have h1:=yU _ (nZ (h:=h) (aq:=aq) (ds:=ds) (by omega) f3);have h2:b.size=8+(aH (bj h aq ds)).length:=by rw[<-cj,f1,IL]
  omega
 refine hK _ _ (fun _=>q6) ?_;clear hK K hfi b6 hl5 q5 B5 own hB f1 f2 f3 f4 f5 hl6 q6 B6 HH5 hlen hm hp1 hp2 hp3 s1 s2 s3 c3 hSL hpl hne hm1 hgl;have hTr:w6.heap[w2.heap.size]?=some (.cells (bq h (.slice pa aq.length pc) (.slice (some ⟨G,0,none⟩) S.length cap)) 24 (0,0)):=zk.out.2.1;refine ap [4,5,6,7,8,9,10] ?_
 iterate 7 refine aT hTr ?_
 refine aj ?_;refine am ?_;clear hTr;have hm2:(1:Int)<(m:Int)+2:=by omega
 have j5:IntKind.i64.wrap (m:Int)=(m:Int):=aao _ (by omega);have j6:(m:Int)<(m:Int)+2:=by omega
 go_wp2_with fail;have hS:w6.drew.cell? ⟨g,1,none⟩=some (.int .i64 (p1:Int))/\w6.drew.cell? ⟨g,m,none⟩=some (.int .i64 (p2:Int)):=⟨c1,c2⟩
 refine ax (fun u=>u.cell? ⟨g,1,none⟩=some (.int .i64 (p1:Int))/\u.cell? ⟨g,m,none⟩=some (.int .i64 (p2:Int))) 99 ?_;refine ap [0,1,2,3,4,5,6,7,8] ?_
 iterate 9 refine aT hS ?_
 refine aj ?_;refine ag 9 fun K hK=>?_;go_simp;have ka:=ae w6 (.cells #[.int .i64 (p1:Int),.int .i64 (p2:Int)] 3);have HO:Hid (((w6.alloc (.cells #[.int .i64 (p1:Int),.int .i64 (p2:Int)] 3)).drew).ownsRow w6.heap.size 3 1 (.slice (some ⟨w6.heap.size,0,none⟩) 2 2) 2 (vals [(p1:Int),(p2:Int)])):=⟨rfl,.inr ⟨w6.heap.size,2,_,rfl,aah _,ah w6 _,aah _,by unfold maxLen;omega,rfl,rfl⟩⟩
 have hkk:Below w6.heap.size w6 ((w6.alloc (.cells #[.int .i64 (p1:Int),.int .i64 (p2:Int)] 3)).drew):=ka.drew;have hS2:((w6.alloc (.cells #[.int .i64 (p1:Int),.int .i64 (p2:Int)] 3)).drew).cell? ⟨g,1,none⟩=some (.int .i64 (p1:Int))/\((w6.alloc (.cells #[.int .i64 (p1:Int),.int .i64 (p2:Int)] 3)).drew).cell? ⟨g,m,none⟩=some (.int .i64 (p2:Int)):=⟨(hkk.cell (p:=⟨g,1,none⟩) HCC.out.2.1).trans c1,(hkk.cell (p:=⟨g,m,none⟩) HCC.out.2.1).trans c2⟩
 have hq7:=(hkk.block w2.heap.size (aaa zk.out.2.1)).trans zk.out.2.1;refine hK _ _ (fun _=>hS2) ?_;generalize hw7:(w6.alloc (.cells #[.int .i64 (p1:Int),.int .i64 (p2:Int)] 3)).drew=w7 at *;clear hK K ka hS c1 c2;refine ap [10] ?_
 iterate 1 refine aT hS2 ?_
 refine aj ?_;refine am ?_;clear hS2;obtain⟨x0,x1,x2,x3,x4,x5,x6⟩:=aP hq7;have zz7:=hkk.size;by_cases h3:h.kd=3
 case' pos =>
  have HH3:Hid (h.kd=3):=h3;have c3:=(hkk.cell (p:=⟨g,2,none⟩) HCC.out.2.1).trans (HCC.out.1 h3);obtain⟨v',u,hr,ho',hg'⟩:=Bh (d:=[(p1:Int),(p2:Int)]) HO.out (p3:Int) (show 2<=100000000 by omega) zz7 22;have hku:Below w6.heap.size w6 u:=uR hkk HO.out hg';obtain⟨UM,ol,hv'⟩:=yV ho';subst hv';obtain⟨gs,rfl,hsp⟩:=Uc ho' (List.cons_ne_nil _ _);have j7:(2:Int)<(m:Int)+2:=by omega
  go_wp2_with (at_builtin;refine aaX _ rfl _ _ _ _ rfl _ _ rfl rfl _ _ hr ?_);clear h3;refine (HPW.out 3 u (by omega) (by omega)).mono ?_;rintro e w9 ⟨rfl,hw9⟩;rw[hw9];have hpr:=bE ac5 (n:=3) (by omega);obtain⟨k,hk⟩:∃k:Nat,cL ac5 3=(k:Int):=⟨(cL ac5 3).toNat,by omega⟩
  rw[hk]at hpr ⊢;have hk':k<3:=by omega
  have hL2:spL h aq ds=[(p1:Int),(p2:Int),(p3:Int)]:=by rw[HCC.out.2.2,aaj HH3.out];rfl
  obtain⟨A',B',hSp,hP⟩:=ae9 (h:=h) (aq:=aq) (ds:=ds) (k:=k) (by rw[hL2];exact hk');have cP:=hsp k hk';rw[hL2]at hP;have cP2:u.cell? ⟨gs,k,none⟩=some (.int .i64 ((8+(aH A').length:Nat):Int)):=cP.trans (by rw[<-hP];rfl);obtain⟨P,hPP⟩:∃p,p=8+(aH A').length:=⟨_,rfl⟩
  rw[<-hPP]at cP2;have HSP:Hid (mE h aq ds A' B'/\P=8+(aH A').length):=⟨hSp,hPP⟩
  have j8:(k:Int)<3:=by omega
  have hcx:=HRC.out u;have hkR:Below w6.heap.size w6 (u.alloc (.cells #[.string ⟨#[69,88,116]⟩,.string ⟨#[101,120,116]⟩,.string ⟨#[73,68,65]⟩,.string ⟨#[122,122,122]⟩] 9)):=hku.trans ((ae u _).mono hku.size);clear hk hpr hw9 w9 hP cP hsp hL2 hSp hPP;go_wp2_with fail;generalize u.alloc (.cells #[.string ⟨#[69,88,116]⟩,.string ⟨#[101,120,116]⟩,.string ⟨#[73,68,65]⟩,.string ⟨#[122,122,122]⟩] 9)=wR at *;generalize u.heap.size=gR at *
 case' neg =>
  obtain⟨gs,hgs,hsp⟩:=Uc HO.out (List.cons_ne_nil _ _);obtain rfl:w6.heap.size=gs:=by injection hgs with e;injection e
  go_wp2_with fail;have HH3:Hid (¬h.kd=3):=h3;clear h3;refine (HPW.out 2 w7 (by omega) (by omega)).mono ?_;rintro e w9 ⟨rfl,hw9⟩;rw[hw9];have hpr:=bE ac5 (n:=2) (by omega);obtain⟨k,hk⟩:∃k:Nat,cL ac5 2=(k:Int):=⟨(cL ac5 2).toNat,by omega⟩
  rw[hk]at hpr ⊢;have hk':k<2:=by omega
  have hL2:spL h aq ds=[(p1:Int),(p2:Int)]:=by rw[HCC.out.2.2,aai HH3.out,abp]
  obtain⟨A',B',hSp,hP⟩:=ae9 (h:=h) (aq:=aq) (ds:=ds) (k:=k) (by rw[hL2];exact hk');have cP:=hsp k hk';rw[hL2]at hP;have cP2:w7.cell? ⟨w6.heap.size,k,none⟩=some (.int .i64 ((8+(aH A').length:Nat):Int)):=cP.trans (by rw[<-hP]);obtain⟨P,hPP⟩:∃p,p=8+(aH A').length:=⟨_,rfl⟩
  rw[<-hPP]at cP2;have HSP:Hid (mE h aq ds A' B'/\P=8+(aH A').length):=⟨hSp,hPP⟩
  have j8:(k:Int)<2:=by omega
  have hcx:=HRC.out w7;have hkR:Below w6.heap.size w6 (w7.alloc (.cells #[.string ⟨#[69,88,116]⟩,.string ⟨#[101,120,116]⟩,.string ⟨#[73,68,65]⟩,.string ⟨#[122,122,122]⟩] 9)):=hkk.trans ((ae w7 _).mono hkk.size);clear hk hpr hw9 w9 hP cP hsp hL2 hSp hPP;go_wp2_with fail;generalize w7.alloc (.cells #[.string ⟨#[69,88,116]⟩,.string ⟨#[101,120,116]⟩,.string ⟨#[73,68,65]⟩,.string ⟨#[122,122,122]⟩] 9)=wR at *;generalize w7.heap.size=gR at *
 all_goals
  refine (HPN.out _).mono ?_;rintro e w9 ⟨rfl,hw9⟩;rw[hw9];clear hw9 w9;have j9:(ix:Int)<4:=by omega
  have hX3:X.size=3:=by rw[HX.out,<-cj];exact acp adr
  have j10:¬9223372036854775807<4+data.size:=by omega
  have j11:data.size<=9223372036854775803:=by omega
  go_wp2_with fail;obtain⟨sm,Hsm⟩:∃s,Hid (s=(⟨#[116]⟩:ByteArray)++X++data):=⟨_,rfl⟩
  obtain⟨gr,Hgr⟩:∃s,Hid (s=(⟨#[81]⟩:ByteArray)++X++data):=⟨_,rfl⟩
  rw[<-Hsm.out,<-Hgr.out];have zs:sm.size=4+data.size:=by rw[Hsm.out,ByteArray.size_append,ByteArray.size_append,hX3];rfl
  have zg:gr.size=4+data.size:=by rw[Hgr.out,ByteArray.size_append,ByteArray.size_append,hX3];rfl
  obtain⟨f1,f2,f3,f4,f5⟩:=HFF.out;obtain⟨hSp,hPP⟩:=HSP.out;obtain⟨n1,hn1,e1⟩:=Zr sm;obtain⟨n2,hn2,e2⟩:=Zr gr;obtain⟨TL,RG⟩:∃T:ByteArray,Hid (T=⟨(four (data.size:Int)).toArray⟩):=⟨_,rfl⟩
  obtain⟨T1,HT1⟩:∃T:ByteArray,Hid (T=⟨(four (n1:Int)).toArray⟩):=⟨_,rfl⟩
  obtain⟨T2,HT2⟩:∃T:ByteArray,Hid (T=⟨(four (n2:Int)).toArray⟩):=⟨_,rfl⟩
  have htl:∀u,Calls Tryz.prog 12 #[.int .i64 (data.size:Int)] u fun e w'=>e=.returned (.string TL)/\Below u.heap.size u w':=fun u=>by rw[RG.out];exact ad3 data.size u (by omega)
  have ht1:∀u,Calls Tryz.prog 12 #[.int .i64 (n1:Int)] u fun e w'=>e=.returned (.string T1)/\Below u.heap.size u w':=fun u=>by rw[HT1.out];exact ad3 n1 u hn1
  have ht2:∀u,Calls Tryz.prog 12 #[.int .i64 (n2:Int)] u fun e w'=>e=.returned (.string T2)/\Below u.heap.size u w':=fun u=>by rw[HT2.out];exact ad3 n2 u hn2
  have hc1:∀u,Calls Tryz.prog 13 #[.string sm] u fun e w'=>e=.returned (.int .i64 (n1:Int))/\w'=u:=fun u=>by rw[e1];exact afb sm u (by unfold maxLen;omega)
  have hc2:∀u,Calls Tryz.prog 13 #[.string gr] u fun e w'=>e=.returned (.int .i64 (n2:Int))/\w'=u:=fun u=>by rw[e2];exact afb gr u (by unfold maxLen;omega)
  have hPb:P<=b.size:=by rw[hPP];exact (BM f1 hSp.all).2.2
  obtain⟨X1,HX1⟩:∃Y,Hid (Y=b.extract 0 P):=⟨_,rfl⟩
  obtain⟨X2,BP⟩:∃Y,Hid (Y=b.extract P b.size):=⟨_,rfl⟩
  obtain⟨Y1,HY1⟩:∃Y,Hid (Y=X1++TL):=⟨_,rfl⟩
  obtain⟨Y2,HY2⟩:∃Y,Hid (Y=Y1++sm):=⟨_,rfl⟩
  obtain⟨Y3,HY3⟩:∃Y,Hid (Y=Y2++T1):=⟨_,rfl⟩
  obtain⟨Y4,HY4⟩:∃Y,Hid (Y=Y3++X2):=⟨_,rfl⟩
  obtain⟨Z2,HZ2⟩:∃Y,Hid (Y=Y1++gr):=⟨_,rfl⟩
  obtain⟨Z3,HZ3⟩:∃Y,Hid (Y=Z2++T2):=⟨_,rfl⟩
  obtain⟨Z4,HZ4⟩:∃Y,Hid (Y=Z3++X2):=⟨_,rfl⟩
  have a1:X1.size=P:=by rw[HX1.out,aaL];omega
  have a2:X2.size<=b.size:=by rw[BP.out,aaL];omega
  have a3:TL.size=4/\T1.size=4/\T2.size=4:=by rw[RG.out,HT1.out,HT2.out];exact⟨rfl,rfl,rfl⟩
  have a4:Y1.size=X1.size+TL.size:=by rw[HY1.out];exact ByteArray.size_append
  have a5:Y2.size=Y1.size+sm.size:=by rw[HY2.out];exact ByteArray.size_append
  have a6:Y3.size=Y2.size+T1.size:=by rw[HY3.out];exact ByteArray.size_append
  have a7:Y4.size=Y3.size+X2.size:=by rw[HY4.out];exact ByteArray.size_append
  have b5:Z2.size=Y1.size+gr.size:=by rw[HZ2.out];exact ByteArray.size_append
  have b6:Z3.size=Z2.size+T2.size:=by rw[HZ3.out];exact ByteArray.size_append
  have b7:Z4.size=Z3.size+X2.size:=by rw[HZ4.out];exact ByteArray.size_append
  have r1:¬9223372036854775807<X1.size+TL.size:=by omega
  have r2:¬9223372036854775807<Y1.size+sm.size:=by omega
  have r3:¬9223372036854775807<Y2.size+T1.size:=by omega
  have r4:¬9223372036854775807<Y3.size+X2.size:=by omega
  have r5:¬9223372036854775807<Y1.size+gr.size:=by omega
  have r6:¬9223372036854775807<Z2.size+T2.size:=by omega
  have r7:¬9223372036854775807<Z3.size+X2.size:=by omega
  have hsk:=Zp adr (d:=data) (by omega);have hdk:dm b 4194304=.ok ⟨h,aq,S⟩:=f4 4194304 (by have:=HH.out.2.2.2.2.2.1;omega);have hlen:=HH.out.2.2.2.2.2.2.1
  have dc1:dm Y4 4194304=.ok ⟨h,aq,S⟩:=(amended hSp f1 (by omega) f3 f2 hsk.1.1 _ 4194304 hdk (t:=Y4) (by
   rw[HY4.out,HY3.out,HY2.out,HY1.out,HX1.out,BP.out,RG.out,HT1.out,e1,hPP,Hsm.out,HX.out,acq]
   rfl)).1 hsk.1.2
  have dc2:dm Z4 4194304=.error 12:=(amended hSp f1 (by omega) f3 f2 hsk.2.1 _ 4194304 hdk (t:=Z4) (by
   rw[HZ4.out,HZ3.out,HZ2.out,HY1.out,HX1.out,BP.out,RG.out,HT2.out,e2,hPP,Hgr.out,HX.out,acq]
   rfl)).2 hsk.2.2
  have hl6:=zk.out.1;have adA:=fun u (hu:Below w6.heap.size w6 u)=>Zd Y4 4194304 u (by omega) tt fr (hl6.later hu).tab;have adB:=fun u (hu:Below w6.heap.size w6 u)=>Zd Z4 4194304 u (by omega) tt fr (hl6.later hu).tab;have HD:Hid (_/\_/\_/\_):=⟨dc1,dc2,adA,adB⟩
  have j12:(P:Int)<=(b.size:Int):=by omega
  clear a1 a2 a3 a4 a5 a6 a7 b5 b6 b7 zs zg e1 e2 hn1 hn2 hsk hdk dc1 dc2 adA adB hl6 f1 f2 f3 f4 hSp hPP hPb;apply adp (F:=fun R pa' pc' sa' sc' u=>AmF w6 h aq S R (.slice pa' aq.length pc') (.slice sa' S.length sc') u)
  ·intro rest;have kk:Below w6.heap.size w6 wR.drew:=hkR.drew;refine ax (fun _=>True) 99 ?_;have hS:True:=trivial;generalize World.drew _=v0 at kk ⊢;refine ap [0,1,2,3,4,7,9,13,14,15] ?_
   iterate 10 refine aT hS ?_
   refine aj ?_;rw[<-HX1.out,<-BP.out];refine fp (i:=5) (j:=21) (by kernel_rfl) rfl rfl (fun K hK=>?_) (fun K hK=>?_);rotate_left;go_simp;obtain⟨R,U,hR,hU,bx,_⟩:=ac4.new kk;rw[<-hR,<-hU];refine hK _ _ (fun _=>trivial) ?_;clear hK K kk hR hU;refine ag 5 fun K hK=>?_;rotate_left
   all_goals
    go_simp;refine (htl _).mono ?_;rintro e v9 ⟨rfl,bb⟩
    first|replace bx:=bx.next bb|replace kk:=kk.trans (bb.mono kk.size)
    refine hK _ _ (fun _=>trivial) ?_;clear hK K bb
   all_goals
    refine ap [6] ?_
    iterate 1 refine aT hS ?_
    refine aj ?_;rw[<-HY1.out];refine ap [8] ?_
    iterate 1 refine aT hS ?_
    refine aj ?_;rw[<-HY2.out]
   refine fp (i:=10) (j:=21) (by kernel_rfl) rfl rfl (fun K hK=>?_) (fun K hK=>?_);rotate_left;go_simp;obtain⟨R,U,hR,hU,bx,_⟩:=ac4.new kk;rw[<-hR,<-hU];refine hK _ _ (fun _=>trivial) ?_;clear hK K kk hR hU;refine ag 10 fun K hK=>?_;rotate_left;refine ag 10 fun K hK=>?_;rotate_left
   all_goals
    go_simp;refine (hc1 _).mono ?_;rintro e v9 ⟨rfl,hv9⟩;subst hv9;refine hK _ _ (fun _=>trivial) ?_;clear hK K
   refine fp (i:=11) (j:=21) (by kernel_rfl) rfl rfl (fun K hK=>?_) (fun K hK=>?_);rotate_left;go_simp;obtain⟨R,U,hR,hU,bx,_⟩:=ac4.new kk;rw[<-hR,<-hU];refine hK _ _ (fun _=>trivial) ?_;clear hK K kk hR hU;refine ag 11 fun K hK=>?_;rotate_left;refine ag 11 fun K hK=>?_;rotate_left;refine ag 11 fun K hK=>?_;rotate_left
   all_goals
    go_simp;refine (ht1 _).mono ?_;rintro e v9 ⟨rfl,bb⟩
    first|replace bx:=bx.next bb|replace kk:=kk.trans (bb.mono kk.size)
    refine hK _ _ (fun _=>trivial) ?_;clear hK K bb
   all_goals
    refine ap [12] ?_
    iterate 1 refine aT hS ?_
    refine aj ?_;rw[<-HY3.out];refine ap [16] ?_
    iterate 1 refine aT hS ?_
    refine aj ?_;rw[<-HY4.out]
   refine fp (i:=17) (j:=21) (by kernel_rfl) rfl rfl (fun K hK=>?_) (fun K hK=>?_);rotate_left;go_simp;obtain⟨R,U,hR,hU,bx,_⟩:=ac4.new kk;rw[<-hR,<-hU];refine hK _ _ (fun _=>trivial) ?_;clear hK K kk hR hU;refine ag 17 fun K hK=>?_;rotate_left;refine ag 17 fun K hK=>?_;rotate_left;refine ag 17 fun K hK=>?_;rotate_left;refine ag 17 fun K hK=>?_;rotate_left
   all_goals
    go_simp;refine (HD.out.2.2.1 _ (by first|exact bx.k|exact kk)).mono ?_;intro e v9 he;obtain⟨pa',pc',sa',sc',rfl,l1,l2,bb⟩:=adh he HD.out.1
    try have o1:=Off.b l1 (aaa bx.r)
    try have o2:=Off.b l2 (aaa bx.r)
    first|replace bx:=bx.next bb|replace kk:=kk.trans (bb.mono kk.size)
    refine hK _ _ (fun _=>trivial) ?_;clear hK K bb he;refine ap [18,19,20] ?_
    iterate 3 refine aT hS ?_
    refine aj ?_
   refine ag 21 fun K hK=>?_;go_simp;obtain⟨R,U,hR,hU,bx,of⟩:=ac4.new kk;have o1:=of _ _ _ l1;have o2:=of _ _ _ l2;rw[<-hR,<-hU];refine hK _ _ (fun _=>trivial) ?_;clear hK K kk of hR hU
   all_goals
    obtain⟨y0,y1,y2,y3,y4,y5,y6,yf,yl⟩:=gG bx.r;refine ag 22 fun K hK=>?_;go_simp;refine hK _ _ (fun _=>trivial) ?_;clear hK K;refine ap [23] ?_
    iterate 1 refine aT hS ?_
    refine aj ?_;refine am ?_;have hE:=bx.end_ (h:=h) o1 o2;unfold l6 at hE;revert hE;generalize World.setCell _ _ _=u;intro hE;exact rest R pa' pc' sa' sc' u hE
  ·intro R pa' pc' sa' sc' u hF;go_wp2_with fail;apply adq (F:=fun _ u2=>Below u.heap.size u u2)
   ·intro rest;have kk:Below u.heap.size u u.drew:=(aav _ u).drew;refine ax (fun _=>True) 99 ?_;have hS:True:=trivial;generalize World.drew _=v0 at kk ⊢;refine ap [0,1,2,3,4,7,9,13,14,15] ?_
    iterate 10 refine aT hS ?_
    refine aj ?_;rw[<-HX1.out,<-BP.out];refine fp (i:=5) (j:=21) (by kernel_rfl) rfl rfl (fun K hK=>?_) (fun K hK=>?_);rotate_left;go_simp;obtain⟨R2,U,hR,hU,bx,_⟩:=ac4.new kk;rw[<-hR,<-hU];refine hK _ _ (fun _=>trivial) ?_;clear hK K kk hR hU;refine ag 5 fun K hK=>?_;rotate_left
    all_goals
     go_simp;refine (htl _).mono ?_;rintro e v9 ⟨rfl,bb⟩
     first|replace bx:=bx.next bb|replace kk:=kk.trans (bb.mono kk.size)
     refine hK _ _ (fun _=>trivial) ?_;clear hK K bb
    all_goals
     refine ap [6] ?_
     iterate 1 refine aT hS ?_
     refine aj ?_;rw[<-HY1.out];refine ap [8] ?_
     iterate 1 refine aT hS ?_
     refine aj ?_;rw[<-HZ2.out]
    refine fp (i:=10) (j:=21) (by kernel_rfl) rfl rfl (fun K hK=>?_) (fun K hK=>?_);rotate_left;go_simp;obtain⟨R2,U,hR,hU,bx,_⟩:=ac4.new kk;rw[<-hR,<-hU];refine hK _ _ (fun _=>trivial) ?_;clear hK K kk hR hU;refine ag 10 fun K hK=>?_;rotate_left;refine ag 10 fun K hK=>?_;rotate_left
    all_goals
     go_simp;refine (hc2 _).mono ?_;rintro e v9 ⟨rfl,hv9⟩;subst hv9;refine hK _ _ (fun _=>trivial) ?_;clear hK K
    refine fp (i:=11) (j:=21) (by kernel_rfl) rfl rfl (fun K hK=>?_) (fun K hK=>?_);rotate_left;go_simp;obtain⟨R2,U,hR,hU,bx,_⟩:=ac4.new kk;rw[<-hR,<-hU];refine hK _ _ (fun _=>trivial) ?_;clear hK K kk hR hU;refine ag 11 fun K hK=>?_;rotate_left;refine ag 11 fun K hK=>?_;rotate_left;refine ag 11 fun K hK=>?_;rotate_left
    all_goals
     go_simp;refine (ht2 _).mono ?_;rintro e v9 ⟨rfl,bb⟩
     first|replace bx:=bx.next bb|replace kk:=kk.trans (bb.mono kk.size)
     refine hK _ _ (fun _=>trivial) ?_;clear hK K bb
    all_goals
     refine ap [12] ?_
     iterate 1 refine aT hS ?_
     refine aj ?_;rw[<-HZ3.out];refine ap [16] ?_
     iterate 1 refine aT hS ?_
     refine aj ?_;rw[<-HZ4.out]
    refine fp (i:=17) (j:=21) (by kernel_rfl) rfl rfl (fun K hK=>?_) (fun K hK=>?_);rotate_left;go_simp;obtain⟨R2,U,hR,hU,bx,_⟩:=ac4.new kk;rw[<-hR,<-hU];refine hK _ _ (fun _=>trivial) ?_;clear hK K kk hR hU;refine ag 17 fun K hK=>?_;rotate_left;refine ag 17 fun K hK=>?_;rotate_left;refine ag 17 fun K hK=>?_;rotate_left;refine ag 17 fun K hK=>?_;rotate_left
    all_goals
     go_simp;refine (HD.out.2.2.2 _ (hF.k.trans (Below.mono (B:=u.heap.size) (by first|exact bx.k|exact kk) hF.k.size))).mono ?_;intro e v9 he;obtain⟨rfl,bb⟩:=adi he HD.out.2.1
     first|replace bx:=bx.next bb|replace kk:=kk.trans (bb.mono kk.size)
     refine hK _ _ (fun _=>trivial) ?_;clear hK K bb he;refine ap [18,19,20] ?_
     iterate 3 refine aT hS ?_
     refine aj ?_
    refine ag 21 fun K hK=>?_;go_simp;obtain⟨R2,U,hR,hU,bx,_⟩:=ac4.new kk;rw[<-hR,<-hU];refine hK _ _ (fun _=>trivial) ?_;clear hK K kk hR hU
    all_goals
     obtain⟨y0,y1,y2,y3,y4,y5,y6,yf,yl⟩:=gG bx.r;refine ag 22 fun K hK=>?_;go_simp;refine hK _ _ (fun _=>trivial) ?_;clear hK K;refine ap [23] ?_
     iterate 1 refine aT hS ?_
     refine aj ?_;refine am ?_;have hE:=fV bx.k R2 bx.lo (.int .i64 0) (.int .i64 0) (.int .i64 0) (.int .i64 0) (.bool false) (.slice none 0 0) (.slice none 0 0);unfold l6 at hE;revert hE;generalize World.setCell _ _ _=u2;intro hE;exact rest R2 u2 hE
   ·intro R2 u2 hk2;have k2:=hF.k.trans (hk2.mono hF.k.size);have qm:=(k2.block w2.heap.size (aaa zk.out.2.1)).trans zk.out.2.1;have qr:=(hk2.block R (aaa hF.r)).trans hF.r;obtain⟨_,l1⟩:=hF.l1;obtain⟨_,l2⟩:=hF.l2;obtain⟨_,_,e3,p1,p2⟩:=l1.nums;obtain⟨_,_,e4,s1,s2⟩:=l2.nums;cases e3;cases e4;have hl2:=zk.out.1.later k2;have zu:=hk2.size;have hsa:=aea h.wd h.ht h.kd h.dp h.ps pa' pa sa' (some ⟨G,0,none⟩) pc' pc sc' cap aq S u2 (p1.below hk2 p2) hl2.hp (s1.below hk2 s2) hl2.hs (fun a e e2=>by have:=p2 a e e2;omega) hl2.hpa (fun a e e2=>by have:=s2 a e e2;omega) hl2.hsa (by omega) (by omega);obtain⟨y0,y1,y2,y3,y4,y5,y6⟩:=aP qr;obtain⟨x0,x1,x2,x3,x4,x5,x6⟩:=aP qm;have HF:Hid (_):=zk.out.2.2.trans (k2.mono zk.out.2.2.size);clear l1 l2 p1 p2 s1 s2 hl2 qm qr k2 hk2 hF r1 r2 r3 r4 r5 r6 r7;go_wp2_with fail;refine hsa.mono ?_;rintro e u3 ⟨rfl,b9⟩;have HG:Hid (_):=HF.out.trans (b9.mono HF.out.size);clear b9 hsa;go_wp2
    go_ret
    exact⟨rfl,HG.out⟩
end
section
open Go.ChangeShapes Go.WideShapes Go.ChangeAt Go.RowKit Go.Joins
open Go.ChangeMaps (open_string shut_string)
theorem adj {H:Type}{x0:Int}{x1:Int}{x2:Int}{x3:Bool}{d4:DataW H}{x5:Int}{x6:Int}{x7:Int}{x8:ByteArray}(hk:Rows.uptoSmall H [.lit (.int .i64 x0),.lit (.int .i64 x1),.lit (.int .i64 x2),.lit (.bool x3),d4,.lit (.int .i64 x5),.lit (.int .i64 x6),.lit (.int .i64 x7),.lit (.string x8.data.toList)]=true):x8.size<=1048576:=by
 have h:Rows.uptoBulkAll (H:=H) [.lit (.int .i64 x0),.lit (.int .i64 x1),.lit (.int .i64 x2),.lit (.bool x3),d4,.lit (.int .i64 x5),.lit (.int .i64 x6),.lit (.int .i64 x7),.lit (.string x8.data.toList)]<=1048576:=of_decide_eq_true hk;simp only[Rows.uptoBulkAll,Rows.uptoBulk]at h;have ex0:x8.data.toList.length=x8.size:=by rw[abm];rfl
 omega
theorem ac8 (H:Type)(enc:TypeId×Value->H)(W:World)(base:Nat)(args:Array Value)(ds gs:List (DataW H))(before:List MemPlace)(hval:∀(j:Nat) t v,Tryz.f5.params[j]?=some t->args[j]?=some v->Value.okWide Tryz.prog W .any base t v)(hW:DataW.Whole enc Tryz.prog Tryz.f5.params.toList Rows.amendedSpec.vars false W args.toList ds gs before)(hk:Rows.uptoSmall H (ds++gs)=true)(hL:laidMetH Tryz.prog Rows.amendedUptoRow.laid W): Calls Tryz.prog 5 args W fun e W'=>∃v,e=.returned v/\Rows.amendedSpec.post enc Tryz.prog Tryz.f5 false true false false W args v W':=by
 have hW':=hW;obtain⟨p,q,hA0,hV,rfl,hfz,hnd⟩:=hW;have hA:DataW.TrodAll enc Tryz.prog W 0 (fun _=>true) true Tryz.f5.params.toList args.toList ds p:=hA0;rw[Tryz.params5]at hA hval;obtain⟨v0,vs0,d0,ds0,p0,q0,hargs,rfl,rfl,h0,r0⟩:=trodAll_cons hA;obtain⟨v1,vs1,d1,ds1,p1,q1,ae2,rfl,rfl,h1,r1⟩:=trodAll_cons r0;obtain⟨v2,vs2,d2,ds2,p2,q2,ae4,rfl,rfl,h2,r2⟩:=trodAll_cons r1;obtain⟨v3,vs3,d3,ds3,p3,q3,ae5,rfl,rfl,h3,r3⟩:=trodAll_cons r2;obtain⟨v4,vs4,d4,ds4,p4,q4,ae6,rfl,rfl,h4,r4⟩:=trodAll_cons r3;obtain⟨v5,vs5,d5,ds5,p5,q5,ae8,rfl,rfl,h5,r5⟩:=trodAll_cons r4;obtain⟨v6,vs6,d6,ds6,p6,q6,afc,rfl,rfl,h6,r6⟩:=trodAll_cons r5;obtain⟨v7,vs7,d7,ds7,p7,q7,afd,rfl,rfl,h7,r7⟩:=trodAll_cons r6;obtain⟨v8,vs8,d8,ds8,p8,q8,afg,rfl,rfl,h8,r8⟩:=trodAll_cons r7;obtain⟨rfl,rfl,rfl⟩:=trodAll_nil r8;obtain rfl:args=#[v0,v1,v2,v3,v4,v5,v6,v7,v8]:=by cases args;simp_all
 obtain⟨rfl,rfl⟩:=trodVars_none hV;obtain⟨x0,rfl,rfl,rfl,hm0⟩:=open_int Tryz.underlying3 (hval 0 3 v0 rfl rfl) h0;obtain⟨x1,rfl,rfl,rfl,hm1⟩:=open_int Tryz.underlying3 (hval 1 3 v1 rfl rfl) h1;obtain⟨x2,rfl,rfl,rfl,hm2⟩:=open_int Tryz.underlying3 (hval 2 3 v2 rfl rfl) h2;obtain⟨x3,rfl,rfl,rfl⟩:=open_bool Tryz.underlying4 (hval 3 4 v3 rfl rfl) h3;obtain⟨ra,rc,raw,rfl,i4,b4,m4,w4⟩:=Yx (hval 4 22 v4 rfl rfl) h4;obtain⟨x5,rfl,rfl,rfl,hm5⟩:=open_int Tryz.underlying3 (hval 5 3 v5 rfl rfl) h5;obtain⟨x6,rfl,rfl,rfl,hm6⟩:=open_int Tryz.underlying3 (hval 6 3 v6 rfl rfl) h6;obtain⟨x7,rfl,rfl,rfl,hm7⟩:=open_int Tryz.underlying3 (hval 7 3 v7 rfl rfl) h7;obtain⟨x8,rfl,rfl,rfl,hm8⟩:=open_string Tryz.underlying9 (hval 8 9 v8 rfl rfl) h8;obtain⟨tt,fr,hT⟩:=table hL;clear hA0;simp only[abp,abb]at hW' hk;have hsh:=adj hk;refine (aeU x0 x1 x2 x3 ra rc raw x5 x6 x7 x8 W (IK hm0) (IK hm1) (IK hm2) (IK hm5) (IK hm6) (IK hm7) hsh i4 b4 w4 (by unfold maxLen at m4;omega) tt fr hT).mono fun e W' ⟨he,hg⟩=>?_;subst he;have h4':=Below.trod Tryz.laidOut (by kernel_rfl) (of_decide_eq_true (by kernel_rfl)) h4 hg (fun x hx=>by simpa using hW'.lt x hx);refine⟨_,rfl,_,_,_,[],p4,[],hW',trodAll_cons_mk (shut_bool Tryz.underlying4 _) trodAll_mk0,?_,rfl,hg.frame _,fun h=>by cases h⟩;have hall:=trodAll_cons_mk (shut_int Tryz.underlying3 hm0) (trodAll_cons_mk (shut_int Tryz.underlying3 hm1) (trodAll_cons_mk (shut_int Tryz.underlying3 hm2) (trodAll_cons_mk (shut_bool Tryz.underlying4 x3) (trodAll_cons_mk h4' (trodAll_cons_mk (shut_int Tryz.underlying3 hm5) (trodAll_cons_mk (shut_int Tryz.underlying3 hm6) (trodAll_cons_mk (shut_int Tryz.underlying3 hm7) (trodAll_cons_mk (shut_string Tryz.underlying9 hm8) trodAll_mk0))))))));simp only[abp,abb]at hall;exact hall
noncomputable def ac6 (os:Os):World :=
 { World.holding Tryz.prog os ⟨#[],#[],[]⟩ with heap:=(World.holding Tryz.prog os ⟨#[],#[],[]⟩).heap.modify 0 fun
   | .cells _ t frozen=>.cells cX t frozen
   | o=>o }
def ac7:Array Value:=#[.int .i64 0,.int .i64 0,.int .i64 0,.bool false,.slice none 0 0,.int .i64 0,.int .i64 0,.int .i64 0,.string .empty]
theorem ac9 (os:Os):laidMet Tryz.prog Rows.amendedUptoRow.laid ((ac6 os).forCall (fun _ _=>0) ⟨#[],ac7,[]⟩).memory :=
 laidMet_of_run' 8 (by kernel_rfl) (by kernel_rfl)
theorem adk (os:Os){H:Type}(enc:TypeId×Value->H):∃places,DataW.whole enc Tryz.prog ((ac6 os).forCall (fun _ _=>0) ⟨#[],ac7,[]⟩).memory Tryz.f5.params.toList Rows.amendedSpec.vars false ac7.toList 8=some ([.lit (.int .i64 0),.lit (.int .i64 0),.lit (.int .i64 0),.lit (.bool false),.nil,.lit (.int .i64 0),.lit (.int .i64 0),.lit (.int .i64 0),.lit (.string [])],[],places) :=
 ⟨[],by kernel_rfl⟩
theorem ade (os:Os)(started:os.Started)(H:Type)(enc:TypeId×Value->H)(F:Stop.Interp): ReturnsInHanded {} Tryz.checked os 5 .any ((Rows.OpenSpec.upto Rows.amendedSpec).preRow enc Tryz.prog Tryz.f5 Rows.amendedUptoRow.domain false Rows.amendedUptoRow.laid) (((Rows.OpenSpec.upto Rows.amendedSpec).at F).post enc Tryz.prog Tryz.f5 false true false false):=by
 obtain⟨places,hx⟩:=adk os enc
 refine returnsInHanded_of_row (C:=Tryz.checked) (s:=Rows.OpenSpec.upto Rows.amendedSpec) Tryz.own started (by kernel_rfl) Tryz.func5
  (witness_row_at (enc:=enc) (C:=Tryz.checked) false (ac6 os) ac7 rfl (by kernel_rfl) (by kernel_rfl) (by kernel_rfl)
   (OpenSpec.preRow_of_cond 8 hx (by kernel_rfl) (fun k hk=>by cases hk;kernel_rfl) (by kernel_rfl) (ac9 os))) ?_
 intro W base args ds gs before hval hW _ hcond _ hL _ _;exact ac8 H enc W base args ds gs before hval hW (hcond _ rfl) hL
theorem ads:Rows.AmendedUptoSaid :=
 OpenClaim.holds_of_cond 5 Tryz.f5 rfl rfl rfl rfl rfl rfl rfl ⟨rfl,rfl,rfl,rfl,rfl⟩ rfl rfl rfl rfl rfl (by kernel_rfl) Tryz.func5 (by kernel_rfl)
  (of_decide_eq_true (by kernel_rfl)) (by unfold Func.isWrapper;first|(rw[aaj (by decide +kernel)];kernel_rfl)|(rw[aai (by decide +kernel)];exact⟨rfl,rfl⟩))
  (fun os started H enc _ F=>by rw[OpenClaim.pre_eq_preRow];exact ade os started H enc F)
theorem adl (f:FuncId)(fn:Func)(hf:Tryz.pinned.checked.prog.funcNamed "mosaic/mosaickeep.Amended"=some f)(hfn:Tryz.pinned.checked.prog.funcs[f]?=some fn): true=Tryz.pinned.checked.prog.looks []/\∀(j:Nat) t,fn.params[j]?=some t->Tryz.pinned.checked.prog.wantsStandIn t=false:=by
 obtain rfl:f=5:=aaH ((show Tryz.prog.funcNamed "mosaic/mosaickeep.Amended"=some 5 by kernel_rfl).symm.trans hf) |>.symm;obtain rfl:fn=Tryz.f5:=(aaH (Tryz.func5.symm.trans hfn)).symm;refine⟨by kernel_rfl,fun j t ht=>?_⟩;rw[Tryz.params5]at ht;have hm:=Array.mem_of_getElem? ht;simp only[List.mem_toArray,ab9,abw,or_false]at hm
 rcases hm with rfl|rfl|rfl|rfl|rfl|rfl|rfl|rfl|rfl <;>
  first
  | exact (show Tryz.prog.wantsStandIn 9=false by kernel_rfl)
  | exact (show Tryz.prog.wantsStandIn 4=false by kernel_rfl)
  | exact (show Tryz.prog.wantsStandIn 3=false by kernel_rfl)
  | exact (show Tryz.prog.wantsStandIn 22=false by kernel_rfl)
theorem amended_card:Rows.AmendedUptoCardSaid :=
 Claim7.holds_tied_plain_at .later [] _ _ _ _ ads (fun _ h=>by cases h) (by kernel_rfl) (fun _ h=>by cases h) amendedUpto_row_tie rfl ⟨rfl,rfl⟩ (by kernel_rfl) rfl adl (by kernel_rfl)
end
end Go.Proofs.YtmfijackgekioabGreatDoor
