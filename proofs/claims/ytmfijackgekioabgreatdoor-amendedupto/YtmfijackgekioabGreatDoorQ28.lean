import Derived.Test.YtmfijackgekioabGreatDoorQ27
import Derived.Maps.AppendAt
import Derived.Lib.AppendZeros
import Derived.Test.YtmfijackgekioabGreatDoorLs
set_option maxHeartbeats 4000000
set_option maxRecDepth 100000
namespace Go.Proofs.YtmfijackgekioabGreatDoor
open Go.RowKit Go.Maps
def gN (s:ByteArray):Bool:=decide (8<=s.size)&&((s.extract 0 8).toList==[137,80,78,71,13,10,26,10])
theorem DC (s:ByteArray)(w:World)(hs:s.size<=1000000000): Calls Tryz.prog 155 #[.string s,.string ⟨#[137,80,78,71,13,10,26,10]⟩] w fun e w'=>e=.returned (.bool (gN s))/\w'=w:=by
 by_cases h8:8<=s.size
 ·have h8i:(s.size:Int)≥8:=by omega
  have HS:Hid (gN s=((s.extract 0 8).toList==[137,80,78,71,13,10,26,10])):=by show _=_;rw[gN,abj h8,acT]
  go_enter Tryz.func155,Tryz.ntmps155
  go_wp2
  go_ret
  exact⟨aL (by rw[HS.out]),rfl⟩
 ·have h8i:¬(s.size:Int)≥8:=by omega
  have HS:Hid (gN s=false):=by show _=_;rw[gN,abN h8,abD]
  go_enter Tryz.func155,Tryz.ntmps155
  go_wp2
  go_ret
  exact⟨aL (by rw[HS.out]),rfl⟩
theorem Wp (s:ByteArray)(w:World)(hs:s.size<=1000000000): Calls Tryz.prog 129 #[.string s,.string ⟨#[137,80,78,71,13,10,26,10]⟩] w fun e w'=>e=.returned (.tuple #[.string (if gN s=true then s.extract 8 s.size else s),.bool (gN s)])/\w'=w:=by
 have hh:=DC s w hs
 have H8:Hid (gN s=true->8<=s.size):=fun h=>by
  simp only[gN,aaS,aaW]at h;exact h.1
 generalize gN s=sb at *;cases sb
 ·go_enter Tryz.func129,Tryz.ntmps129
  go_wp2_with fail;refine hh.mono ?_;rintro e w' ⟨rfl,rfl⟩;go_wp2;exact aaF (v:=.tuple #[.string s,.bool false]) (by simp[results,Tryz.results129,go_sem]) rfl ⟨rfl,rfl⟩
 ·have h8:=H8.out rfl;have h8i:(8:Int)<=(s.size:Int):=by omega
  go_enter Tryz.func129,Tryz.ntmps129
  go_wp2_with fail;refine hh.mono ?_;rintro e w' ⟨rfl,rfl⟩;go_wp2;exact aaF (v:=.tuple #[.string (s.extract 8 s.size),.bool true]) (by simp[results,Tryz.results129,go_sem]) rfl ⟨rfl,rfl⟩
theorem aa8 (s:ByteArray)(w:World)(hs:s.size<=1000000000): Calls Tryz.prog 88 #[.string s,.string ⟨#[137,80,78,71,13,10,26,10]⟩] w fun e w'=>e=.returned (.tuple #[.string (if gN s=true then s.extract 8 s.size else s),.bool (gN s)])/\w'=w:=by
 have hh:=Wp s w hs;generalize (if gN s=true then s.extract 8 s.size else s)=R at *;generalize gN s=sb at *
 go_enter Tryz.func88,Tryz.ntmps88
 go_wp2_with fail;refine hh.mono ?_;rintro e w' ⟨rfl,rfl⟩;go_wp2;exact aaF (v:=.tuple #[.string R,.bool sb]) (by simp[results,Tryz.results88,go_sem]) rfl ⟨rfl,rfl⟩
theorem Tryz.infoChunk:(Tryz.prog.info? 83).map (fun i=>(i.zero,i.size,i.bytes))=some (some (.agg #[.string ⟨#[]⟩,.string ⟨#[]⟩]),2,32):=by kernel_rfl
def fJ (L:List Ch):List Value:=L.flatMap fun c=>[.string c.name,.string c.data]
theorem yJ (L:List Ch)(c:Ch):fJ (L++[c])=fJ L++[.string c.name,.string c.data]:=by simp[fJ]
theorem uF (L:List Ch):(fJ L).length=L.length*2:=by
 induction L with
 | nil=>rfl
 | cons x l ih=>simp only[fJ,List.flatMap_cons,aac,aaA,acH]at *;omega
structure vo (w:World) (X:Nat) (L:List Ch) (v:Value):Prop where
 box:bG w X v 88
 own:w.ownsRow (X+1) 83 2 v L.length (fJ L)
theorem vo.kept {w w':World}{X:Nat}{L:List Ch}{v:Value}(h:vo w X L v)(k:∀j,j=X\/v.ownBlock=some j->w'.heap[j]?=w.heap[j]?):vo w' X L v :=
 ⟨(k _ (.inl rfl)).trans h.box,aJ h.own (fun g hg=>k g (.inr hg))⟩
theorem vo.lt {w:World}{X:Nat}{L:List Ch}{v:Value}(h:vo w X L v)(g:Nat)(hg:v.ownBlock=some g):X+1<=g/\g<w.heap.size:=h.own.lt g hg
theorem vo.below {w w':World}{X:Nat}{L:List Ch}{v:Value}(h:vo w X L v)(k:Below w.heap.size w w'):vo w' X L v :=
 h.kept (fun j hj=>k.block j (by rcases hj with rfl|hj;exact aaa h.box;exact (h.lt j hj).2))
theorem Wq (X:Nat)(c:Ch)(L:List Ch)(v:Value)(w:World)(h:vo w X L v)(hL:L.length<=100000000): Calls Tryz.prog 55 #[.agg #[.string c.name,.string c.data],.pointer (some ⟨X,0,none⟩)] w fun e w'=>e=.returned (.tuple #[])/\∃v',vo w' X (L++[c]) v'/\Kp (fun k=>v.ownBlock=some k\/k=X) w w':=by
 obtain⟨i0,hi,hz0,hz1,hz2⟩:=abu Tryz.infoChunk;have hlx:=aaa h.box;obtain⟨k0,q0,q1⟩:=bH w (.cells #[.string c.name,.string c.data] 83) (.cells #[.string c.name,.string c.data] 83);have h2:=h.below k0;have hsz2:((w.alloc (.cells #[.string c.name,.string c.data] 83)).alloc (.cells #[.string c.name,.string c.data] 83)).heap.size=w.heap.size+1+1:=by simp
 obtain⟨v',w',hr,ho',hg',_,_⟩:=run_append_own_at (P:=Tryz.prog) ((w.alloc (.cells #[.string c.name,.string c.data] 83)).alloc (.cells #[.string c.name,.string c.data] 83)) (X+1) 88 88 83 i0 _ 2 32 Tryz.underlying88 hi hz0 hz1 hz2 rfl (by decide) v L.length (fJ L) h2.own ⟨w.heap.size+1,0,none⟩ 1 1 [.string c.name,.string c.data] rfl (fun j u hj=>by
   rw[eJ,aaO,aR q1];simpa using hj) (fun u hu=>by
   simp only[ab9,abw,or_false]at hu
   rcases hu with rfl|rfl<;>rfl) (by unfold maxLen;omega) (by omega) (by omega)
 have hbx:w'.heap[X]?=some (.cells #[v] 88 (0,0)):=(hg'.block X (aaa h2.box) (fun e=>by have:=(h2.lt X e.symm).1;omega)).trans h2.box
 have hsl:vo (w'.setCell ⟨X,0,none⟩ v') X (L++[c]) v' :=
  ⟨one_set hbx v',aJ (by rw[aac,yJ];exact ho') (fun g hg=>aak _ ⟨X,0,none⟩ _ g (fun e=>by have:=(ho'.lt g hg).1;dsimp only at e;omega))⟩
 have hkp:Kp (fun k=>v.ownBlock=some k\/k=X) w (w'.setCell ⟨X,0,none⟩ v') :=
  (Kp.grown (Kp.aF k0) hg' (fun k hk=>.inl (.inl hk))).setCell (p:=⟨X,0,none⟩) (.inl (.inr rfl)) _
 obtain⟨x0,x1,x2⟩:=one_cell hbx;have c0:=h.box.cell;have HH:Hid (_/\_):=⟨hsl,hkp⟩
 obtain⟨oa,oc,rfl⟩:=aV h.own;obtain⟨rU,ol,rfl⟩:=aV ho';clear h2 hsl hkp ho' hg' hbx k0 q0 q1 h hsz2
 go_enter Tryz.func55,Tryz.ntmps55
 go_wp2_with (at_builtin;refine aaX _ rfl _ _ _ _ rfl _ _ rfl rfl _ _ hr ?_)
 go_end0
 exact⟨rfl,_,HH.out⟩
theorem Ws (args:Array Value)(w:World):(callFunc 55 args).run Tryz.prog w=.ok (.enter 55 args) w:=by kernel_rfl
def SN:Value->Nat|.string s=>s.size|_=>0
theorem vo.bel {w w':World}{X:Nat}{L:List Ch}{v:Value}(h:vo w X L v)(k:Kp (fun k=>v.ownBlock=some k\/k=X) w w'):Below X w w' :=
 k.below (acV (aaa h.box)) (fun j _ hj=>by
  rcases hj with hj|hj
  ·have:=(h.lt j hj).1;omega
  ·omega)
inductive Fc (b:ByteArray) (X:Nat) (w:World):Ending->World->Prop
 | sig {w'}:gN b=false->Below X w w'->Fc b X w (dies 10) w'
 | bad {w'}:gN b=true->aM (b.extract 8 b.size)=none->Below X w w'->Fc b X w (dies 11) w'
 | ok {w' L v}:gN b=true->aM (b.extract 8 b.size)=some L->vo w' X L v->Below X w w'->Fc b X w (.returned (.tuple #[])) w'
theorem Wt (b:ByteArray)(X:Nat)(w:World)(hs:b.size<=1000000000)(h:vo w X [] (.slice none 0 0)): Calls Tryz.prog 54 #[.string b,.func (.func 55) #[] #[.pointer (some ⟨X,0,none⟩)]] w fun e w'=>Fc b X w e w':=by
 have hcut:=aa8 b w hs;have hcall:=Ws;have hX:=aaa h.box;rcases Bool.eq_false_or_eq_true (gN b) with hsb|hsb;rotate_left
 ·rw[hsb,aai (by decide)]at hcut
  go_enter Tryz.func54,Tryz.ntmps54
  go_wp2_with fail;refine hcut.mono ?_;rintro e w' ⟨rfl,rfl⟩;go_wp2;exact⟨rfl,.sig hsb (aav _ _)⟩
 ·rw[hsb,aaj rfl]at hcut;have HSB:Hid (gN b=true):=hsb;have SQ:(b.extract 8 b.size).size<=1000000000:=by rw[aaL];omega
  obtain⟨b8,Ce⟩:∃b8,b.extract 8 b.size=b8:=⟨_,rfl⟩
  have Re:Hid (b.extract 8 b.size=b8):=Ce;rw[Ce]at hcut SQ;clear Ce;have HS:Hid (b8.size<=1000000000):=SQ;have Y2:Hid (vo w X [] (.slice none 0 0)):=h;clear hs SQ hsb h
  go_enter Tryz.func54,Tryz.ntmps54
  go_wp2_with fail;refine hcut.mono ?_;rintro e w' ⟨rfl,rfl⟩;clear hcut;go_wp2
  go_loopw [4] (fun rv wr=>∃(r:ByteArray) (L:List Ch) (v:Value),rv=.string r/\Hid (aM b8=(aM r).map (fun l=>L++l))/\Hid (vo wr X L v)/\Hid (L.length*12+r.size<=1000000000)/\Below X w' wr) (fun rv _=>SN rv)
  case atStart=>exact⟨b8,[],.slice none 0 0,rfl,by show _=_;cases aM b8<;>rfl,Y2,by show _<=_;have:=HS.out;simp;omega,aav _ _⟩
  case round =>
   obtain⟨r,L,v,rfl,HC,HL,HZ,hbl⟩:=hrel;by_cases hr0:r.size=0
   ·have HD:Hid (aM b8=some L):=by show _=_;rw[HC.out,uD hr0];simp
    have aa9:¬(r.size:Int)>0:=by omega
    clear HC;go_wp2
    go_end0
    exact .ok HSB.out (by rw[Re.out];exact HD.out) HL.out hbl
   ·have aa9:(r.size:Int)>0:=by omega
    have hfi:=SJ r wr (by have:=HZ.out;omega);unfold Le at hfi;have CD:Hid (r.size≠0):=hr0;clear hr0;go_wp2_with fail;refine hfi.mono ?_;rintro e w1 ⟨⟨hok,rfl⟩|⟨hno,rfl⟩,b1⟩
    ·have pw:Hid (lV r=true):=hok;have hL1:=HL.out.below b1;have B1:Below X w' w1:=hbl.trans (b1.mono (abe (acV hX) hbl.size));have hsz:=qN hok;have hrs:=jH hok
     have HD:Hid (aM b8=(aM (gE r)).map (fun l=>(L++[o6 r])++l)):=by
      show _=_;rw[HC.out,rJ CD.out hok];cases aM (gE r)<;>simp
     have hdl:(o6 r).data.size=eg r:=by show (r.extract 8 (8+eg r)).size=_;rw[aaL];omega
     have hre:r.extract (12+eg r) r.size=gE r:=rfl;generalize hCH:o6 r=c at *;generalize gE r=R2 at *;generalize eg r=n at *
     have HZ2:Hid ((L++[c]).length*12+R2.size<=1000000000/\R2.size<r.size/\L.length<=100000000):=by
      have:=HZ.out;show _/\_/\_;rw[aac,acg];omega
     have hN:=ah w1 (.cells #[.string c.name,.string c.data] 83);have kN:=ae w1 (.cells #[.string c.name,.string c.data] 83);have hL2:=hL1.below kN;have B2:Below X w' (w1.alloc (.cells #[.string c.name,.string c.data] 83)):=B1.trans (kN.mono (abe (acV hX) B1.size));obtain⟨C,Wo⟩:∃C,w1.heap.size=C:=⟨_,rfl⟩
     have hCX:C≠X:=by have:=aaa hL1.box;omega
     have hCv:v.ownBlock≠some C:=fun e=>by have:=(hL1.lt C e).2;omega
     have rL:=Wq X c L v _ hL2 HZ2.out.2.2;have HN:Hid ((w1.alloc (.cells #[.string c.name,.string c.data] 83)).heap[C]?=some (.cells #[.string c.name,.string c.data] 83 (0,0))/\vo (w1.alloc (.cells #[.string c.name,.string c.data] 83)) X L v):=⟨Wo▸hN,hL2⟩
     have n12:(n:Int)+12<=(r.size:Int):=by omega
     have s1:IntKind.i64.wrap (8+(n:Int))=8+(n:Int):=aao _ (by omega);have s2:IntKind.i64.wrap (8+(n:Int)+4)=((12+n:Nat):Int):=(aao _ (by omega)).trans (by omega);have s3:((12+n:Nat):Int)<=(r.size:Int):=by omega
     clear hfi HC HL HZ hbl b1 hL1 B1 hN kN hL2 hok hsz hrs pw hCH;go_wp2_with fail;refine rL.mono ?_;rintro e w3 ⟨rfl,v',hL3,BS⟩;have IX:w3.heap[C]?=some (.cells #[.string c.name,.string c.data] 83 (0,0)):=gv HN.out.1 BS (fun e=>by rcases e with e|e;exact hCv e;exact hCX e);have B3:Below X w' w3:=B2.trans (HN.out.2.bel BS);have PF:Hid (vo w3 X (L++[c]) v'):=hL3;obtain⟨c0,c1,cf,cl⟩:=aN IX;clear rL hL3 BS B2 HN IX Wo;have hcs:(c.data.size:Int)=(n:Int):=by omega
     go_wp2
     go_roundw
     case rel=>exact⟨R2,L++[c],v',by rw[hre],HD,PF,HZ2.out.1,B3⟩
     case measure=>simp[SN];have:=HZ2.out;omega
    ·have HD:Hid (aM b8=none):=by show _=_;rw[HC.out,Dx CD.out hno];rfl
     have B1:Below X w' w1:=hbl.trans (b1.mono (abe (acV hX) hbl.size));clear HC hfi;go_wp2;exact⟨rfl,.bad HSB.out (by rw[Re.out];exact HD.out) B1⟩
structure ChV (w:World) (v:Value) (L:List Ch):Prop where
 shape:(L=[]/\v=.slice none 0 0)\/∃g cap,v=.slice (some ⟨g,0,none⟩) L.length cap/\g<w.heap.size/\L.length<=cap/\∀j,j<L.length->w.cell? ⟨g,j*2,none⟩=some (.string (L.getD j ⟨⟨#[]⟩,⟨#[]⟩⟩).name)/\w.cell? ⟨g,j*2+1,none⟩=some (.string (L.getD j ⟨⟨#[]⟩,⟨#[]⟩⟩).data)
theorem Wu (L:List Ch)(j:Nat)(h:j<L.length):(fJ L)[j*2]?=some (.string (L.getD j ⟨⟨#[]⟩,⟨#[]⟩⟩).name)/\(fJ L)[j*2+1]?=some (.string (L.getD j ⟨⟨#[]⟩,⟨#[]⟩⟩).data):=by
 induction L generalizing j with
 | nil=>simp at h
 | cons x r ih =>
  have e:fJ (x::r)=[.string x.name,.string x.data]++fJ r:=by simp[fJ]
  cases j with
  | zero=>rw[e];exact⟨rfl,rfl⟩
  | succ j =>
   have:=ih j (by simpa using h);rw[e,show (j+1)*2=2+j*2 by omega,show 2+j*2+1=2+(j*2+1) by omega];rw[aaM (by simp),aaM (by simp)];simpa using this
theorem vo.val {w:World}{X:Nat}{L:List Ch}{v:Value}(h:vo w X L v):ChV w v L:=by
 constructor;rcases h.own.2 with⟨hv,h0⟩|⟨g,cap,cur,hv,hg,hblk,hnc,hcm,hcs,htake⟩
 ·exact .inl ⟨aaG h0,hv⟩
 ·refine .inr ⟨g,cap,hv,aaa hblk,hnc,fun j hj=>?_⟩;obtain⟨a,b⟩:=Wu L j hj;have hl:=uF L;rw[<-htake,abZ,aaj (by omega),acS]at a b;exact⟨(aR hblk _).trans a,(aR hblk _).trans b⟩
inductive Lh (L:List Ch) (w:World):Ending->World->Prop
 | no {w'}:cK L=none->Below w.heap.size w w'->Lh L w (dies 12) w'
 | ok {w' P}:cK L=some P->Below w.heap.size w w'->Lh L w (.returned (.agg #[.string P.head,.bool P.aq.isSome,.string (P.aq.getD ⟨#[]⟩),.string P.data])) w'
theorem Li {L:List Ch}(h:cy (fT L).name [] none (dM L)=none):cK L=none:=by
 unfold cK;split
 ·rw[h]
 ·rfl
theorem Lj {L:List Ch}{d:List ByteArray}{p:Option ByteArray}(he:jq L=true)(h:cy (fT L).name [] none (dM L)=some (d,p)):cK L=if d.isEmpty=true then none else some ⟨(fT L).data,p,eG d⟩:=by
 unfold cK;rw[aaj he,h]
theorem uG {L:List Ch}{n:Nat}(hn:L.length=n+2):(dM L).length=n:=by
 unfold dM;rw[acb,aa7];omega
theorem Lk {L:List Ch}{n k:Nat}(hn:L.length=n+2)(hk:k<n):(dM L).drop k=L.getD (k+1) ⟨⟨#[]⟩,⟨#[]⟩⟩::(dM L).drop (k+1):=by
 have hm:=uG hn;rw[List.drop_eq_getElem_cons (by omega)]
 congr 1
 unfold dM;rw[List.getElem_drop,List.getElem_take,aab,aan (by omega)];simp only[ac1]
 congr 1
 omega
theorem mid_end {L:List Ch}{n:Nat}(hn:L.length=n+2):(dM L).drop n=[]:=List.drop_eq_nil_of_le (by rw[uG hn];exact aah _)
theorem Oq (nm dt:ByteArray)(w:World)(h:0<nm.size): Calls Tryz.prog 90 #[.agg #[.string nm,.string dt]] w fun e w'=>e=.returned (.bool (gM (af nm 0)))/\Below w.heap.size w w':=by
 have hb:=cD nm 0 h;have hb2:=cE nm 0;have hcap:=fun v=>A3 (af nm 0) v;have h0:(0:Int)<(nm.size:Int):=by omega
 generalize af nm 0=c at *;generalize gM c=cb at *
 go_enter Tryz.func90,Tryz.ntmps90
 go_wp2_with (go_at_call 131;refine (hcap _).mono ?_;rintro e w' ⟨rfl,rfl⟩)
 go_ret
 exact⟨rfl,ae _ _⟩
theorem Tryz.infoStr:(Tryz.prog.info? 9).map (fun i=>(i.zero,i.size,i.bytes))=some (some (.string ⟨#[]⟩),1,16):=by kernel_rfl
abbrev strs (d:List ByteArray):List Value:=d.map Value.string
theorem Ll {u:World}{base:Nat}{v:Value}{d:List ByteArray}(h:u.ownsRow base 9 1 v d.length (strs d))(x:ByteArray)(hd:d.length<=100000000)(hb:base<=u.heap.size)(ty:TypeId): ∃v' w',(Builtin.append_ #[38,38] ty #[v,.slice (some ⟨u.heap.size,0,none⟩) 1 1]).run Tryz.prog (u.alloc (.cells #[.string x] 9))=.ok v' w'/\w'.ownsRow base 9 1 v' (d++[x]).length (strs (d++[x]))/\(u.alloc (.cells #[.string x] 9)).grownBy w' v.ownBlock:=by
 obtain⟨i0,hi,hz0,hz1,hz2⟩:=abu Tryz.infoStr;have hq:=ah u (.cells #[.string x] 9)
 obtain⟨v',w',hr,ho',hg',_,_⟩:=run_append_own_at (P:=Tryz.prog) (u.alloc (.cells #[.string x] 9)) base 38 ty 9 i0 _ 1 16 Tryz.underlying38 hi hz0 hz1 hz2 rfl (by decide) v d.length (strs d) (h.alloc _) ⟨u.heap.size,0,none⟩ 1 1 [.string x] rfl (fun j y hj=>by
   rw[eJ,aaO,aR hq];simpa using hj) (fun y hy=>by
   simp only[ab9,abw,or_false]at hy
   rw[hy];rfl) (by unfold maxLen;omega) (by omega) (by simp;omega)
 refine⟨v',w',hr,?_,hg'⟩;have e:strs (d++[x])=strs d++[.string x]:=by simp[strs]
 rw[e,aac];exact ho'
theorem Tryz.infoParts:(Tryz.prog.info? 66).map (·.size)=some 4:=by kernel_rfl
def iW (L:List Ch):Nat:=(L.map fun c=>c.data.size).sum
theorem Hc (d:List ByteArray)(x:ByteArray):(eG (d++[x])).size=(eG d).size+x.size:=by
 induction d with
 | nil=>simp only[abb,eG,ByteArray.size_append];omega
 | cons y r ih=>simp only[abG,eG,ByteArray.size_append,ih];omega
theorem Lm (a:ByteArray)(d:List ByteArray)(p:Option ByteArray)(M:List Ch)(d':List ByteArray)(p':Option ByteArray)(h:cy a d p M=some (d',p')):(eG d').size<=(eG d).size+iW M:=by
 induction M generalizing a d p with
 | nil =>
  simp only[cy,acw,Prod.mk.injEq]at h;rw[h.1];exact Nat.le_add_right _ _
 | cons c r ih =>
  have es:iW (c::r)=c.data.size+iW r:=by simp[iW]
  unfold cy at h;split at h
  ·have:=ih _ _ _ h;rw[Hc]at this;omega
  ·split at h
   ·have:=ih _ _ _ h;omega
   ·split at h
    ·cases h
    ·have:=ih _ _ _ h;omega
theorem Ln (L:List Ch):iW (dM L)<=iW L:=by
 have h1:∀(M:List Ch) k,iW (M.take k)<=iW M:=fun M k=>by
  conv=>rhs;rw[<-acM k M]
  unfold iW;rw[ab5,List.sum_append];omega
 have h2:∀(M:List Ch) k,iW (M.drop k)<=iW M:=fun M k=>by
  conv=>rhs;rw[<-acM k M]
  unfold iW;rw[ab5,List.sum_append];omega
 exact abe (h2 _ _) (h1 _ _)
theorem A7 (d:List ByteArray):Lib.join (d.map (·.data.toList)) []=(eG d).data.toList:=by
 induction d with
 | nil=>rfl
 | cons x r ih =>
  rw[acI,Lib.join_cons]
  have e:Lib.joinTail [] (r.map (·.data.toList))=Lib.join (r.map (·.data.toList)) []:=by
   cases r with
   | nil=>rfl
   | cons y t=>rw[acI,Lib.join_cons];simp[Lib.joinTail]
  rw[e,ih];simp[eG,ByteArray.data_append]
theorem Lp (L:List Ch)(v:Value)(w:World)(hv:ChV w v L)(hL:L.length<=100000000)(htot:iW L<=100000000000)(hnm:∀c∈L,0<c.name.size): Calls Tryz.prog 56 #[v] w fun e w'=>Lh L w e w':=by
 have HT:Hid (iW L<=100000000000):=htot;clear htot;by_cases h2:L.length<2
 ·have HE:Hid (cK L=none):=by
   show _=_;unfold cK jq;rw[abN (by omega),abD,aai (by decide)]
  have h2i:(L.length:Int)-1<1:=by omega
  obtain⟨ao,cap,rfl⟩:∃ao cap,v=.slice ao L.length cap:=by
   rcases hv.shape with⟨rfl,rfl⟩|⟨g,cap,rfl,_⟩
   ·exact⟨_,_,rfl⟩
   ·exact⟨_,_,rfl⟩
  clear hv;generalize L.length=n at *
  go_enter Tryz.func56,Tryz.ntmps56
  go_wp2;exact⟨rfl,.no HE.out (ae _ _)⟩
 ·obtain⟨g,cap,rfl,hg,hcap,hc⟩:∃g cap,v=.slice (some ⟨g,0,none⟩) L.length cap/\g<w.heap.size/\L.length<=cap/\∀j,j<L.length->w.cell? ⟨g,j*2,none⟩=some (.string (L.getD j ⟨⟨#[]⟩,⟨#[]⟩⟩).name)/\w.cell? ⟨g,j*2+1,none⟩=some (.string (L.getD j ⟨⟨#[]⟩,⟨#[]⟩⟩).data):=by
   rcases hv.shape with⟨rfl,rfl⟩|h
   ·simp at h2
   ·exact h
  obtain⟨n,hn⟩:∃n,L.length=n+2:=⟨L.length-2,by omega⟩
  have f0:=hc 0 (by omega);have f1:=hc (n+1) (by omega);have HC:Hid (∀j,j<L.length->w.cell? ⟨g,j*2,none⟩=some (.string (L.getD j ⟨⟨#[]⟩,⟨#[]⟩⟩).name)/\w.cell? ⟨g,j*2+1,none⟩=some (.string (L.getD j ⟨⟨#[]⟩,⟨#[]⟩⟩).data)):=hc;have hl1:((n:Int)+2-1)=(n:Int)+1:=by omega
  have Dd:Hid (∀j,j<L.length->0<(L.getD j ⟨⟨#[]⟩,⟨#[]⟩⟩).name.size):=fun j hj=>hnm _ (by rw[aab,aan hj];exact abo _);clear hv hc h2 hnm;rw[hn];generalize hF:L.getD 0 ⟨⟨#[]⟩,⟨#[]⟩⟩=F at *;generalize hLa:L.getD (n+1) ⟨⟨#[]⟩,⟨#[]⟩⟩=La at *;have hn1:¬(n:Int)+1<1:=by omega
  have Wv:Hid (jq L=((F.name.toList==[73,72,68,82])&&((La.name.toList==[73,69,78,68])&&La.data.toList.isEmpty))):=by
   show _=_;unfold jq fT ky iV;rw[hn,show n+2-1=n+1 by omega,hF,hLa,abj (by omega),acT]
  cases hq1:(F.name.toList==[73,72,68,82])
  ·have pq:Hid (cK L=none):=by show _=_;unfold cK;rw[Wv.out,hq1,abD,aai (by decide)]
   go_enter Tryz.func56,Tryz.ntmps56
   go_wp2;exact⟨rfl,.no pq.out (ae _ _)⟩
  ·cases hq2:(La.name.toList==[73,69,78,68])
   ·have pq:Hid (cK L=none):=by show _=_;unfold cK;rw[Wv.out,hq1,hq2,abD,Bool.and_false,aai (by decide)]
    go_enter Tryz.func56,Tryz.ntmps56
    go_wp2;exact⟨rfl,.no pq.out (ae _ _)⟩
   ·cases hq3:La.data.toList.isEmpty
    ·have pq:Hid (cK L=none):=by show _=_;unfold cK;rw[Wv.out,hq1,hq2,hq3,Bool.and_false,Bool.and_false,aai (by decide)]
     go_enter Tryz.func56,Tryz.ntmps56
     go_wp2;exact⟨rfl,.no pq.out (ae _ _)⟩
    ·have Ql:Hid (jq L=true):=by show _=_;rw[Wv.out,hq1,hq2,hq3];rfl
     have hfc:fT L=F:=hF;have Ww:Hid (cy F.name [] none (dM L)=none->cK L=none):=fun h=>Li (by rw[hfc];exact h);have HOS:Hid (∀d p,cy F.name [] none (dM L)=some (d,p)->cK L=if d.isEmpty=true then none else some ⟨F.data,p,eG d⟩):=fun d p h=>by rw[Lj Ql.out (by rw[hfc];exact h),hfc]
     obtain⟨k0,q0,q1⟩:=bH w (.cells #[.string ⟨#[]⟩,.bool false,.string ⟨#[]⟩,.string ⟨#[]⟩] 66) (.cells #[.string F.data,.bool false,.string ⟨#[]⟩,.string ⟨#[]⟩] 66);have HF0:Hid (L.getD 0 ⟨⟨#[]⟩,⟨#[]⟩⟩=F):=hF;clear hfc hF
     go_enter Tryz.func56,Tryz.ntmps56
     go_wp2;clear Wv hq1 hq2 hq3 hLa
     go_loopw [5,39] (fun dv kv wr=>∃(k:Nat) (d:List ByteArray) (p:Option ByteArray),kv=.int .i64 k/\k<=n/\Hid (cy F.name [] none (dM L)=cy (L.getD k ⟨⟨#[]⟩,⟨#[]⟩⟩).name d p ((dM L).drop k))/\Hid (wr.heap[w.heap.size+1]?=some (.cells #[.string F.data,.bool p.isSome,.string (p.getD ⟨#[]⟩),.string ⟨#[]⟩] 66 (0,0)))/\Hid (wr.heap[w.heap.size]?=some (.cells #[.string ⟨#[]⟩,.bool false,.string ⟨#[]⟩,.string ⟨#[]⟩] 66 (0,0)))/\Hid (wr.ownsRow (w.heap.size+2) 9 1 dv d.length (strs d))/\Hid (d.length<=k)/\Below w.heap.size w wr) (fun _ kv _=>n-(intOf kv).toNat)
     case atStart=>exact⟨0,[],none,rfl,aaq _,by show _=_;rw[HF0.out];rfl,q1,q0,⟨rfl,.inl ⟨rfl,rfl⟩⟩,aah _,k0⟩
     case round =>
      clear q0 q1 k0;obtain⟨k,d,p,rfl,hkn,HO,HP,HR,HD,Ok,hbl⟩:=hrel;by_cases hlt:k<n
      ·have G9:(k:Int)<(n:Int):=by omega
       have HMD:Hid ((dM L).drop k=L.getD (k+1) ⟨⟨#[]⟩,⟨#[]⟩⟩::(dM L).drop (k+1)):=Lk hn hlt;have ca:=HC.out k (by omega);have cc:=HC.out (k+1) (by omega);have c1:wr.cell? ⟨g,k*2,none⟩=some (.string (L.getD k ⟨⟨#[]⟩,⟨#[]⟩⟩).name):=(hbl.cell (p:=⟨g,k*2,none⟩) hg).trans ca.1;have c2:wr.cell? ⟨g,2+k*2,none⟩=some (.string (L.getD (k+1) ⟨⟨#[]⟩,⟨#[]⟩⟩).name):=(hbl.cell (p:=⟨g,2+k*2,none⟩) hg).trans (by rw[show 2+k*2=(k+1)*2 by omega];exact cc.1);have c3:wr.cell? ⟨g,2+k*2+1,none⟩=some (.string (L.getD (k+1) ⟨⟨#[]⟩,⟨#[]⟩⟩).data):=(hbl.cell (p:=⟨g,2+k*2+1,none⟩) hg).trans (by rw[show 2+k*2+1=(k+1)*2+1 by omega];exact cc.2);have hnc:=Dd.out (k+1) (by omega);clear ca cc;generalize L.getD k ⟨⟨#[]⟩,⟨#[]⟩⟩=A at *;generalize hck:L.getD (k+1) ⟨⟨#[]⟩,⟨#[]⟩⟩=c at *;have Y4:Hid (L.getD (k+1) ⟨⟨#[]⟩,⟨#[]⟩⟩=c):=hck;clear hck;have hgw:g<wr.heap.size:=aaQ hg hbl.size;have kU:=ae wr (.cells #[.string c.name,.string c.data] 83);have hCU:=ah wr (.cells #[.string c.name,.string c.data] 83);have SR:=(kU.block _ (aaa HP.out)).trans HP.out;have hRU:=(kU.block _ (aaa HR.out)).trans HR.out;have Wx:=HD.out.alloc (.cells #[.string c.name,.string c.data] 83);have BU:Below w.heap.size w (wr.alloc (.cells #[.string c.name,.string c.data] 83)):=hbl.trans (kU.mono hbl.size);have agD:w.heap.size+2<=wr.heap.size:=by have:=aaa HP.out;omega
       have DE:=fun v=>Oq c.name c.data v hnc
       have HCAP:Hid (iV c.name cJ=true\/iV c.name cP=true->gM (af c.name 0)=true):=fun h=>by
        rcases h with h|h<;>(have:=yH h;unfold af;rw[this];rfl)
       have HIP:Hid (iV c.name cJ=true->iV c.name cP=false):=fun h=>gV h (by decide);rw[HMD.out]at HO;have vr:Hid (cy F.name [] none (dM L)=if (iV c.name cJ&&(d.isEmpty||iV A.name cJ))=true then cy c.name (d++[c.data]) p ((dM L).drop (k+1)) else if (iV c.name cP&&d.isEmpty&&p.isNone)=true then cy c.name d (some c.data) ((dM L).drop (k+1)) else if gM (af c.name 0)=true then none else cy c.name d p ((dM L).drop (k+1))):=HO.out;have hps:=Ll Wx c.data (by have:=Ok.out;omega) (by simp;omega) 38;have HPS:Hid (_):=hps;have Uz:Hid (d.isEmpty=decide (d.length=0)):=by show _=_;cases d<;>rfl
       obtain⟨oa,oc,hdv⟩:=aS HD.out;subst hdv;have agE:w.heap.size+1≠wr.heap.size:=by omega
       clear HMD HO HP HR hps hbl kU Dd;have eI:iV c.name cJ=(c.name.toList==[73,68,65,84]):=rfl;have eA:iV A.name cJ=(A.name.toList==[73,68,65,84]):=rfl;have eP:iV c.name cP=(c.name.toList==[80,76,84,69]):=rfl;rw[eI,eA,eP,Uz.out]at vr;rw[eI,eP]at HCAP HIP;clear eI eA eP Uz;generalize hbI:(c.name.toList==[73,68,65,84])=bI at *;generalize hbA:(A.name.toList==[73,68,65,84])=bA at *;generalize hbP:(c.name.toList==[80,76,84,69])=bP at *;generalize gM (af c.name 0)=cB at *;generalize hm:d.length=m at *;have HM:Hid (d.length=m):=hm;clear hm;have ST:bI=true->bP=false:=HIP.out
       have hm0:m=0\/(m≠0/\((m:Int)==0)=false):=by
        rcases Nat.eq_zero_or_pos m with h|h
        ·exact .inl h
        ·exact .inr ⟨by omega,by simp;omega⟩
       have HK:Hid (Below w.heap.size w (wr.alloc (.cells #[.string c.name,.string c.data] 83))):=BU;obtain⟨v',w2,hr,ho',hg'⟩:=HPS.out;simp only[aas]at hr
       have HG:Hid (w2.ownsRow (w.heap.size+2) 9 1 v' (d++[c.data]).length (strs (d++[c.data]))/\w2.heap[w.heap.size+1]?=some (.cells #[.string F.data,.bool p.isSome,.string (p.getD ⟨#[]⟩),.string ⟨#[]⟩] 66 (0,0))/\w2.heap[w.heap.size]?=some (.cells #[.string ⟨#[]⟩,.bool false,.string ⟨#[]⟩,.string ⟨#[]⟩] 66 (0,0))/\Below w.heap.size w w2):=by
        have Nq:∀j,j<w.heap.size+2->w2.heap[j]?=(wr.alloc (.cells #[.string c.name,.string c.data] 83)).heap[j]?:=fun j hj=>by
         have hsz:j<(wr.alloc (.cells #[.string c.name,.string c.data] 83)).heap.size:=by simp;omega
         rw[hg'.block j (by simp;omega) (fun e=>by have:=(Wx.lt j e.symm).1;omega)];exact (ae (wr.alloc (.cells #[.string c.name,.string c.data] 83)) _).block j hsz
        refine⟨ho',(Nq _ (by omega)).trans SR,(Nq _ (by omega)).trans hRU,?_⟩;have hgr:Kp (fun j=>(Value.slice oa m oc).ownBlock=some j) (wr.alloc (.cells #[.string c.name,.string c.data] 83)) w2:=Kp.grown (Kp.aF (ae _ _)) hg' (fun j hj=>.inl hj);exact BU.trans (hgr.below (by simp;omega) (fun j _ hj=>by have:=(Wx.lt j hj).1;omega))
       obtain⟨rU,ol,hv'⟩:=aS HG.out.1;subst hv';obtain⟨M,hM⟩:∃M,(d++[c.data]).length=M:=⟨_,rfl⟩
       have HM2:Hid ((d++[c.data]).length=M):=hM;have HOW:Hid (w2.ownsRow (w.heap.size+2) 9 1 (.slice rU M ol) (d++[c.data]).length (strs (d++[c.data]))):=by have:=HG.out.1;rw[hM]at this ⊢;exact this
       rw[hM]at hr;have Y5:Hid ((wr.alloc (.cells #[.string c.name,.string c.data] 83)).ownsRow (w.heap.size+2) 9 1 (.slice oa m oc) d.length (strs d)):=by show World.ownsRow _ _ _ _ _ _ _;rw[HM.out];exact Wx
       have HPU:Hid (_):=SR;have HRU:Hid (_):=hRU;have HEX:Hid (∀(w3:World),Below (wr.alloc (.cells #[.string c.name,.string c.data] 83)).heap.size (wr.alloc (.cells #[.string c.name,.string c.data] 83)) w3->cy F.name [] none (dM L)=cy c.name d p ((dM L).drop (k+1))->∃(k':Nat) (d':List ByteArray) (p':Option ByteArray),Value.int .i64 ((k:Int)+1)=.int .i64 k'/\k'<=n/\Hid (cy F.name [] none (dM L)=cy (L.getD k' ⟨⟨#[]⟩,⟨#[]⟩⟩).name d' p' ((dM L).drop k'))/\Hid (w3.heap[w.heap.size+1]?=some (.cells #[.string F.data,.bool p'.isSome,.string (p'.getD ⟨#[]⟩),.string ⟨#[]⟩] 66 (0,0)))/\Hid (w3.heap[w.heap.size]?=some (.cells #[.string ⟨#[]⟩,.bool false,.string ⟨#[]⟩,.string ⟨#[]⟩] 66 (0,0)))/\Hid (w3.ownsRow (w.heap.size+2) 9 1 (.slice oa m oc) d'.length (strs d'))/\Hid (d'.length<=k')/\Below w.heap.size w w3):=fun w3 hb ho=>⟨k+1,d,p,rfl,hlt,by show _=_;rw[ho,Y4.out],(hb.block _ (aaa HPU.out)).trans HPU.out,(hb.block _ (aaa HRU.out)).trans HRU.out,aJ Y5.out (fun j hj=>hb.block j (Y5.out.lt j hj).2),by show _<=_;have:=HM.out;have:=Ok.out;omega,HK.out.trans (hb.mono (by simp;omega))⟩
       clear HPS ho' hg' Wx HD BU hM;have hnx:n-(k+1)<n-k:=by omega
       cases bI
       ·rw[abD,aai (by decide)]at vr;cases bP
        ·rw[abD,abD]at vr;have mo:Hid (cy F.name [] none (dM L)=if cB=true then none else cy c.name d p ((dM L).drop (k+1))):=by show _=_;rw[vr.out];exact aai (by decide)
         clear vr hr;cases cB
         ·rw[aai (by decide)]at mo;go_wp2_with fail;refine (DE _).mono ?_;rintro e w3 ⟨rfl,hb3⟩;go_wp2
          go_roundw
          case rel=>exact HEX.out w3 hb3 mo.out
          case measure=>exact hnx
         ·rw[aaj rfl]at mo;have pq:Hid (cK L=none):=Ww.out mo.out;go_wp2_with fail;refine (DE _).mono ?_;rintro e w3 ⟨rfl,hb3⟩;go_wp2;exact⟨rfl,.no pq.out (HK.out.trans (hb3.mono (by simp;omega)))⟩
        ·rw[acT]at vr;rcases hm0 with rfl|⟨hm1,hm2⟩
         ·rw[abj rfl,acT]at vr;cases p with
          | none =>
           have mo:Hid (cy F.name [] none (dM L)=cy c.name d (some c.data) ((dM L).drop (k+1))):=vr.out;have pc1:=(aR SR 1).trans (show _=some (Value.bool false) from rfl);have pc2:=(aR SR 2).trans (show _=some (Value.string ⟨#[]⟩) from rfl);have pf:=fun j=>aaI _ (w.heap.size+1) j _ _ SR;have pl:=aaa SR;clear vr hr;go_wp2
           go_roundw
           case rel =>
            have hne1:∀j,j≠w.heap.size+1->(((wr.alloc (.cells #[.string c.name,.string c.data] 83)).setCell ⟨w.heap.size+1,2,none⟩ (.string c.data)).setCell ⟨w.heap.size+1,1,none⟩ (.bool true)).heap[j]?=(wr.alloc (.cells #[.string c.name,.string c.data] 83)).heap[j]?:=fun j hj=>(aak _ ⟨w.heap.size+1,1,none⟩ _ j (fun e=>by dsimp only at e;omega)).trans (aak _ ⟨w.heap.size+1,2,none⟩ _ j (fun e=>by dsimp only at e;omega));refine⟨k+1,d,some c.data,rfl,hlt,by show _=_;rw[mo.out,Y4.out],?_,(hne1 _ (by omega)).trans HRU.out,aJ Y5.out (fun j hj=>hne1 j (fun e=>by have:=(Y5.out.lt j hj).1;omega)),by show _<=_;rw[HM.out];exact aaq _,?_⟩
            ·exact (aau _ (w.heap.size+1) 1 _ _ _ ((aau _ (w.heap.size+1) 2 _ _ _ HPU.out).trans rfl)).trans rfl
            ·exact (HK.out.setCell (p:=⟨w.heap.size+1,2,none⟩) (by dsimp only;omega) _).setCell (p:=⟨w.heap.size+1,1,none⟩) (by dsimp only;omega) _
           case measure=>exact hnx
          | some p0 =>
           have mo:Hid (cy F.name [] none (dM L)=if cB=true then none else cy c.name d (some p0) ((dM L).drop (k+1))):=by show _=_;rw[vr.out];exact aai (by simp)
           clear vr hr;have pc1:=(aR SR 1).trans (show _=some (Value.bool true) from rfl);cases cB
           ·rw[aai (by decide)]at mo;go_wp2_with fail;refine (DE _).mono ?_;rintro e w3 ⟨rfl,hb3⟩;go_wp2
            go_roundw
            case rel=>exact HEX.out w3 hb3 mo.out
            case measure=>exact hnx
           ·rw[aaj rfl]at mo;have pq:Hid (cK L=none):=Ww.out mo.out;go_wp2_with fail;refine (DE _).mono ?_;rintro e w3 ⟨rfl,hb3⟩;go_wp2;exact⟨rfl,.no pq.out (HK.out.trans (hb3.mono (by simp;omega)))⟩
         ·rw[abN hm1,abD]at vr;have mo:Hid (cy F.name [] none (dM L)=if cB=true then none else cy c.name d p ((dM L).drop (k+1))):=by show _=_;rw[vr.out];exact aai (by decide)
          clear vr hr;cases cB
          ·rw[aai (by decide)]at mo;go_wp2_with fail;refine (DE _).mono ?_;rintro e w3 ⟨rfl,hb3⟩;go_wp2
           go_roundw
           case rel=>exact HEX.out w3 hb3 mo.out
           case measure=>exact hnx
          ·rw[aaj rfl]at mo;have pq:Hid (cK L=none):=Ww.out mo.out;go_wp2_with fail;refine (DE _).mono ?_;rintro e w3 ⟨rfl,hb3⟩;go_wp2;exact⟨rfl,.no pq.out (HK.out.trans (hb3.mono (by simp;omega)))⟩
       ·rcases hm0 with rfl|⟨hm1,hm2⟩
        ·go_wp2_with (at_builtin;refine aaX _ rfl _ _ _ _ rfl _ _ rfl rfl _ _ hr ?_)
         go_roundw
         case rel=>exact⟨k+1,d++[c.data],p,rfl,hlt,by show _=_;rw[vr.out,Y4.out];rfl,HG.out.2.1,HG.out.2.2.1,HOW,by show _<=_;rw[aac,HM.out];simp,HG.out.2.2.2⟩
         case measure=>exact hnx
        ·cases bA
         ·have pq:Hid (cK L=none):=Ww.out (by rw[vr.out,HCAP.out (.inl rfl),ST rfl,abN hm1];rfl);have hcb:cB=true:=HCAP.out (.inl rfl);have hbp:=ST rfl;subst hcb;subst hbp;clear HCAP HIP ST vr hr;go_wp2_with fail;refine (DE _).mono ?_;rintro e w3 ⟨rfl,hb3⟩;go_wp2;exact⟨rfl,.no pq.out (HK.out.trans (hb3.mono (by simp;omega)))⟩
         ·go_wp2_with (at_builtin;refine aaX _ rfl _ _ _ _ rfl _ _ rfl rfl _ _ hr ?_)
          go_roundw
          case rel=>exact⟨k+1,d++[c.data],p,rfl,hlt,by show _=_;rw[vr.out,Y4.out,Bool.or_true];rfl,HG.out.2.1,HG.out.2.2.1,HOW,by show _<=_;have:=HM.out;have:=Ok.out;rw[aac];simp;omega,HG.out.2.2.2⟩
          case measure=>exact hnx
      ·have hke:k=n:=by omega
       subst hke;have HE:Hid (cy F.name [] none (dM L)=some (d,p)):=by show _=_;rw[HO.out,mid_end hn];rfl
       have hnl:¬(k:Int)<(k:Int):=by omega
       have PD:=HOS.out d p HE.out;have Ot:Hid (_):=PD;obtain⟨oa,oc,hdv⟩:=aS HD.out;subst hdv;clear PD HO HOS Ww;rcases Nat.eq_zero_or_pos d.length with hd0|hd0
       ·have pq:Hid (cK L=none):=by show _=_;rw[Ot.out,aaj (by simpa using hd0)]
        clear Ot HE;generalize d.length=m at *;subst hd0;go_wp2;exact⟨rfl,.no pq.out hbl⟩
       ·have Ue:Hid (cK L=some ⟨F.data,p,eG d⟩):=by show _=_;rw[Ot.out,aai (by simp;intro e;rw[e]at hd0;simp at hd0)]
        obtain⟨g2,cap2,rfl,rfl,hg2,hcap2,hc2⟩:∃g2 cap2,oa=some ⟨g2,0,none⟩/\oc=cap2/\g2<wr.heap.size/\d.length<=cap2/\∀(j:Nat) x,d[j]?=some x->wr.cell? ⟨g2,0+j,none⟩=some (.string x):=by
         rcases HD.out.2 with⟨_,h0⟩|⟨g2,cap2,cur,hv2,_,hblk,hnc,_,_,htake⟩
         ·omega
         ·injection hv2 with e1 e2 e3;refine⟨g2,cap2,e1,e3,aaa hblk,hnc,fun j x hj=>?_⟩;have hjl:j<d.length:=(List.getElem?_eq_some_iff.mp hj).1;have hx:(strs d)[j]?=some (.string x):=by rw[abC,hj];rfl
          rw[<-htake,abZ,aaj (by omega),acS]at hx;rw[aaO,aR hblk];exact hx
        have hjo:=Tryz.strings_Join g2 0 oc d ⟨#[]⟩ wr hc2 hg2 (by have:=Ok.out;omega) hcap2 (by
         show (Lib.join _ []).length<=_;rw[A7];have h9:=Lm _ _ _ _ _ _ HE.out;have h8:=Ln L;have h7:=HT.out;have h6:(eG []).size=0:=rfl;have h5:(eG d).data.toList.length=(eG d).size:=abm
         omega)
        have ej:(⟨(Lib.join (d.map (·.data.toList)) ([]:List UInt8)).toArray⟩:ByteArray)=eG d:=by rw[A7]
        have Wy:Calls Tryz.prog 91 #[.slice (some ⟨g2,0,none⟩) d.length oc,.string ⟨#[]⟩] wr fun e w'=>e=.returned (.string (eG d))/\Below wr.heap.size wr w':=hjo.mono (by
         rintro e w' ⟨rfl,hb⟩
         exact⟨abV (fun x=>Ending.returned (Value.string x)) ej,hb⟩)
        have hdn:((d.length:Int)==0)=false:=by rw[aaP];intro e;omega
        clear hjo ej hc2 hcap2 hg2 HD HE Ot Ok HT HC Dd;generalize d.length=m at *;generalize eG d=D at *;go_wp2_with fail;refine Wy.mono ?_;rintro e w4 ⟨rfl,hb4⟩;have P4:=(hb4.block _ (aaa HP.out)).trans HP.out;have R4:=(hb4.block _ (aaa HR.out)).trans HR.out;have B4:Below w.heap.size w w4:=hbl.trans (hb4.mono hbl.size);have ox:=(aR P4 0).trans (show _=some (Value.string F.data) from rfl);have pc1:=(aR P4 1).trans (show _=some (Value.bool p.isSome) from rfl);have pc2:=(aR P4 2).trans (show _=some (Value.string (p.getD ⟨#[]⟩)) from rfl);have pc3:=(aR P4 3).trans (show _=some (Value.string ⟨#[]⟩) from rfl);have pf:=fun j=>aaI _ (w.heap.size+1) j _ _ P4;have pl:=aaa P4;have rf:=fun j=>aaI _ w.heap.size j _ _ R4;have rl:=aaa R4;have rc0:=(aR R4 0).trans (show _=some (Value.string ⟨#[]⟩) from rfl);have rc1:=(aR R4 1).trans (show _=some (Value.bool false) from rfl);have rc2:=(aR R4 2).trans (show _=some (Value.string ⟨#[]⟩) from rfl);have rc3:=(aR R4 3).trans (show _=some (Value.string ⟨#[]⟩) from rfl);clear Wy hb4 hbl HP HR;go_wp2;have hend:=(aau _ w.heap.size 3 _ _ (.string D) ((aau _ w.heap.size 2 _ _ (.string (p.getD ⟨#[]⟩)) ((aau _ w.heap.size 1 _ _ (.bool p.isSome) ((aau _ w.heap.size 0 _ _ (.string F.data) ((aak w4 ⟨w.heap.size+1,3,none⟩ (.string D) w.heap.size (fun e=>by dsimp only at e;omega)).trans R4)).trans rfl)).trans rfl)).trans rfl)).trans (show _=some (Obj.cells #[.string F.data,.bool p.isSome,.string (p.getD ⟨#[]⟩),.string D] 66 (0,0)) from rfl);exact aaF (v:=.agg #[.string F.data,.bool p.isSome,.string (p.getD ⟨#[]⟩),.string D]) (results_cell_row rfl _ _ w.heap.size 66 _ (0,0) _ rfl hend Tryz.underlying66 rfl Tryz.infoParts) rfl (.ok Ue.out (((((B4.setCell (p:=⟨w.heap.size+1,3,none⟩) (by dsimp only;omega) _).setCell (p:=⟨w.heap.size,0,none⟩) (by dsimp only;omega) _).setCell (p:=⟨w.heap.size,1,none⟩) (by dsimp only;omega) _).setCell (p:=⟨w.heap.size,2,none⟩) (by dsimp only;omega) _).setCell (p:=⟨w.heap.size,3,none⟩) (by dsimp only;omega) _))
theorem xm:∀(f:Nat) (b:ByteArray) (L:List Ch),Ld f b=some L->12*L.length+iW L=b.size/\∀c∈L,c.name.size=4/\eD (af c.name 0)=true
 | 0,_,_,h=>by cases h
 | f+1,b,L,h=>by
  rw[Ld]at h;split at h
  ·rename_i h0;injection h with h;subst h;exact⟨by rw[h0];rfl,fun c hc=>absurd hc (abw)⟩
  ·split at h
   ·rename_i hk;obtain⟨l,hl,rfl⟩:=Option.map_eq_some_iff.mp h;have hs:=jH hk;have hz:=qN hk;obtain⟨a1,a2⟩:=xm f (gE b) l hl
    have e1:(o6 b).data.size=eg b:=by
     show (b.extract 8 (8+eg b)).size=_;rw[aaL];omega
    have e2:(o6 b).name.size=4:=by
     show (b.extract 4 8).size=_;rw[aaL];omega
    have e3:iW (o6 b::l)=(o6 b).data.size+iW l:=by simp[iW]
    refine⟨by rw[e3,e1,aaA];omega,fun c hc=>?_⟩;rcases ab9.mp hc with rfl|hc
    ·refine⟨e2,?_⟩;simp only[lV,aaS]at hk;have h4:=hk.2.2.2.1;simp only[fA,aaS]at h4
     have e4:af (o6 b).name 0=af b 4:=by
      show af (b.extract 4 8) 0=_;rw[bM]
      all_goals omega
     rw[e4];exact h4.1
    ·exact a2 c hc
   ·cases h
theorem pX {b:ByteArray}{L:List Ch}(h:aM b=some L):12*L.length+iW L=b.size/\∀c∈L,c.name.size=4/\eD (af c.name 0)=true:=xm _ _ _ h
def partsOf (b:ByteArray):Except Int kt :=
 if gN b=true then
  match aM (b.extract 8 b.size) with
  | none=>.error 11
  | some L=>match cK L with
   | none=>.error 12
   | some P=>.ok P
 else .error 10
theorem He {b:ByteArray}(h:gN b=false):partsOf b=.error 10:=by unfold partsOf;rw[aai (by rw[h];decide)]
theorem Hf {b:ByteArray}(h:gN b=true)(hc:aM (b.extract 8 b.size)=none):partsOf b=.error 11:=by unfold partsOf;rw[aaj h,hc]
theorem A8 {b:ByteArray}{L:List Ch}(h:gN b=true)(hc:aM (b.extract 8 b.size)=some L)(ho:cK L=none):partsOf b=.error 12:=by unfold partsOf;rw[aaj h,hc];dsimp only;rw[ho]
theorem uH {b:ByteArray}{L:List Ch}{P:kt}(h:gN b=true)(hc:aM (b.extract 8 b.size)=some L)(ho:cK L=some P):partsOf b=.ok P:=by unfold partsOf;rw[aaj h,hc];dsimp only;rw[ho]
abbrev yK (P:kt):Value:=.agg #[.string P.head,.bool P.aq.isSome,.string (P.aq.getD ⟨#[]⟩),.string P.data]
inductive Lq (b:ByteArray) (w:World):Ending->World->Prop
 | no {w' c}:partsOf b=.error c->Below w.heap.size w w'->Lq b w (dies c) w'
 | ok {w' P}:partsOf b=.ok P->Below w.heap.size w w'->Lq b w (.returned (yK P)) w'
theorem DF (b:ByteArray)(w:World)(hs:b.size<=1000000000): Calls Tryz.prog 31 #[.string b] w fun e w'=>Lq b w e w':=by
 obtain⟨k0,q0,q1⟩:=bH w (.cells #[.string ⟨#[]⟩,.bool false,.string ⟨#[]⟩,.string ⟨#[]⟩] 66) (.cells #[.slice none 0 0] 88);have hch:vo ((w.alloc (.cells #[.string ⟨#[]⟩,.bool false,.string ⟨#[]⟩,.string ⟨#[]⟩] 66)).alloc (.cells #[.slice none 0 0] 88)) (w.heap.size+1) [] (.slice none 0 0):=⟨q1,⟨rfl,.inl ⟨rfl,rfl⟩⟩⟩
 have hE:=Wt b (w.heap.size+1) _ hs hch;have Y6:Hid (_):=q0;have zr:Hid (_):=k0;have HS:Hid (b.size<=1000000000):=hs;clear hch q0 q1 k0 hs
 go_enter Tryz.func31,Tryz.ntmps31
 go_wp2_with fail;refine hE.mono ?_;intro e w1 he;cases he with
 | sig h1 hb =>
  have HB:Hid (_):=zr.out.trans (hb.mono (by omega));have HN:Hid (_):=He h1;clear h1 hb hE;go_wp2;exact⟨rfl,.no HN.out HB.out⟩
 | bad h1 h2 hb =>
  have HB:Hid (_):=zr.out.trans (hb.mono (by omega));have HN:Hid (_):=Hf h1 h2;clear h1 h2 hb hE;go_wp2;exact⟨rfl,.no HN.out HB.out⟩
 | @ok _ L v h1 h2 hc hb =>
  have hz:=pX h2;have hes:(b.extract 8 b.size).size<=b.size:=by rw[aaL];omega
  have hO:=Lp L v w1 hc.val (by have:=HS.out;omega) (by have:=HS.out;omega) (fun c h=>by have:=(hz.2 c h).1;omega);have HB:Hid (Below w.heap.size w w1):=zr.out.trans (hb.mono (by omega));have R1:w1.heap[w.heap.size]?=some (.cells #[.string ⟨#[]⟩,.bool false,.string ⟨#[]⟩,.string ⟨#[]⟩] 66 (0,0)):=(hb.block _ (by omega)).trans Y6.out
  have HN:Hid (∀o,cK L=o->partsOf b=match o with|none=>.error 12|some P=>.ok P):=fun o ho=>by
   subst ho;cases ho:cK L with
   | none=>exact A8 h1 h2 ho
   | some P=>exact uH h1 h2 ho
  have HR1:Hid (_):=R1;have cb:=hc.box.cell;have lw1:=aaa R1;have lx1:=aaa hc.box;obtain⟨oa,oc,hv⟩:=aV hc.own;subst hv;clear h1 h2 hc hb hz hes hE R1;go_wp2_with fail;refine hO.mono ?_;intro e w2 he2;cases he2 with
  | no h3 hb2 =>
   have HB2:Hid (Below w.heap.size w w2):=HB.out.trans (hb2.mono HB.out.size);have SI:Hid (_):=HN.out _ h3;clear h3 hb2 hO;go_wp2;exact⟨rfl,.no SI.out HB2.out⟩
  | @ok _ P h3 hb2 =>
   have HB2:Hid (Below w.heap.size w w2):=HB.out.trans (hb2.mono HB.out.size);have SI:Hid (_):=HN.out _ h3;have R4:=(hb2.block _ (aaa HR1.out)).trans HR1.out;have rf:=fun j=>aaI _ w.heap.size j _ _ R4;have rl:=aaa R4;have rc0:=(aR R4 0).trans (show _=some (Value.string ⟨#[]⟩) from rfl);have rc1:=(aR R4 1).trans (show _=some (Value.bool false) from rfl);have rc2:=(aR R4 2).trans (show _=some (Value.string ⟨#[]⟩) from rfl);have rc3:=(aR R4 3).trans (show _=some (Value.string ⟨#[]⟩) from rfl);have HR4:Hid (_):=R4;clear h3 hb2 hO cb R4;go_wp2;have hend:=(aau _ w.heap.size 3 _ _ (.string P.data) ((aau _ w.heap.size 2 _ _ (.string (P.aq.getD ⟨#[]⟩)) ((aau _ w.heap.size 1 _ _ (.bool P.aq.isSome) ((aau _ w.heap.size 0 _ _ (.string P.head) HR4.out).trans rfl)).trans rfl)).trans rfl)).trans (show _=some (Obj.cells #[.string P.head,.bool P.aq.isSome,.string (P.aq.getD ⟨#[]⟩),.string P.data] 66 (0,0)) from rfl);exact aaF (v:=yK P) (results_cell_row rfl _ _ w.heap.size 66 _ (0,0) _ rfl hend Tryz.underlying66 rfl Tryz.infoParts) rfl (.ok SI.out ((((HB2.out.setCell (p:=⟨w.heap.size,0,none⟩) (by dsimp only;omega) _).setCell (p:=⟨w.heap.size,1,none⟩) (by dsimp only;omega) _).setCell (p:=⟨w.heap.size,2,none⟩) (by dsimp only;omega) _).setCell (p:=⟨w.heap.size,3,none⟩) (by dsimp only;omega) _))
end Go.Proofs.YtmfijackgekioabGreatDoor
