import Derived.Test.YtmfijackgekioabGreatDoorQ28
import Derived.Maps.AppendAt
import Derived.Lib.AppendZeros
import Derived.Test.YtmfijackgekioabGreatDoorLs
set_option maxHeartbeats 4000000
set_option maxRecDepth 100000
namespace Go.Proofs.YtmfijackgekioabGreatDoor
open Go.RowKit Go.Maps
def gy (s:ByteArray):Bool:=decide (8<=s.size)&&((s.extract 0 8).toList==[137,80,78,71,13,10,26,10])
theorem D9 (s:ByteArray)(w:World)(hs:s.size<=1000000000): Calls Tryz.prog 155 #[.string s,.string ⟨#[137,80,78,71,13,10,26,10]⟩] w fun e w'=>e=.returned (.bool (gy s))/\w'=w:=by
 by_cases h8:8<=s.size
 ·have h8i:(s.size:Int)≥8:=by omega
  have HS:Hid (gy s=((s.extract 0 8).toList==[137,80,78,71,13,10,26,10])):=by show _=_;rw[gy,abh h8,ade]
  go_enter Tryz.func155,Tryz.ntmps155
  go_wp2
  go_ret
  exact⟨aO (by rw[HS.out]),rfl⟩
 ·have h8i:¬(s.size:Int)≥8:=by omega
  have HS:Hid (gy s=false):=by show _=_;rw[gy,abT h8,abN]
  go_enter Tryz.func155,Tryz.ntmps155
  go_wp2
  go_ret
  exact⟨aO (by rw[HS.out]),rfl⟩
theorem Xc (s:ByteArray)(w:World)(hs:s.size<=1000000000): Calls Tryz.prog 129 #[.string s,.string ⟨#[137,80,78,71,13,10,26,10]⟩] w fun e w'=>e=.returned (.tuple #[.string (if gy s=true then s.extract 8 s.size else s),.bool (gy s)])/\w'=w:=by
 have hh:=D9 s w hs
 have H8:Hid (gy s=true->8<=s.size):=fun h=>by
  simp only[gy,aaQ,aaP]at h;exact h.1
 generalize gy s=sb at *;cases sb
 ·go_enter Tryz.func129,Tryz.ntmps129
  go_wp2_with fail;refine hh.mono ?_;rintro e w' ⟨rfl,rfl⟩;go_wp2;exact aaG (v:=.tuple #[.string s,.bool false]) (by simp[results,Tryz.results129,go_sem]) rfl ⟨rfl,rfl⟩
 ·have h8:=H8.out rfl;have h8i:(8:Int)<=(s.size:Int):=by omega
  go_enter Tryz.func129,Tryz.ntmps129
  go_wp2_with fail;refine hh.mono ?_;rintro e w' ⟨rfl,rfl⟩;go_wp2;exact aaG (v:=.tuple #[.string (s.extract 8 s.size),.bool true]) (by simp[results,Tryz.results129,go_sem]) rfl ⟨rfl,rfl⟩
theorem abO (s:ByteArray)(w:World)(hs:s.size<=1000000000): Calls Tryz.prog 88 #[.string s,.string ⟨#[137,80,78,71,13,10,26,10]⟩] w fun e w'=>e=.returned (.tuple #[.string (if gy s=true then s.extract 8 s.size else s),.bool (gy s)])/\w'=w:=by
 have hh:=Xc s w hs;generalize (if gy s=true then s.extract 8 s.size else s)=R at *;generalize gy s=sb at *
 go_enter Tryz.func88,Tryz.ntmps88
 go_wp2_with fail;refine hh.mono ?_;rintro e w' ⟨rfl,rfl⟩;go_wp2;exact aaG (v:=.tuple #[.string R,.bool sb]) (by simp[results,Tryz.results88,go_sem]) rfl ⟨rfl,rfl⟩
theorem Tryz.infoChunk:(Tryz.prog.info? 83).map (fun i=>(i.zero,i.size,i.bytes))=some (some (.agg #[.string ⟨#[]⟩,.string ⟨#[]⟩]),2,32):=by kernel_rfl
def fN (L:List Ch):List Value:=L.flatMap fun c=>[.string c.name,.string c.data]
theorem zi (L:List Ch)(c:Ch):fN (L++[c])=fN L++[.string c.name,.string c.data]:=by simp[fN]
theorem uY (L:List Ch):(fN L).length=L.length*2:=by
 induction L with
 | nil=>rfl
 | cons x l ih=>simp only[fN,List.flatMap_cons,aae,aaw,acm]at *;omega
structure vO (w:World) (X:Nat) (L:List Ch) (v:Value):Prop where
 box:bK w X v 88
 own:w.ownsRow (X+1) 83 2 v L.length (fN L)
theorem vO.kept {w w':World}{X:Nat}{L:List Ch}{v:Value}(h:vO w X L v)(k:∀j,j=X\/v.ownBlock=some j->w'.heap[j]?=w.heap[j]?):vO w' X L v :=
 ⟨(k _ (.inl rfl)).trans h.box,aL h.own (fun g hg=>k g (.inr hg))⟩
theorem vO.lt {w:World}{X:Nat}{L:List Ch}{v:Value}(h:vO w X L v)(g:Nat)(hg:v.ownBlock=some g):X+1<=g/\g<w.heap.size:=h.own.lt g hg
theorem vO.below {w w':World}{X:Nat}{L:List Ch}{v:Value}(h:vO w X L v)(k:Below w.heap.size w w'):vO w' X L v :=
 h.kept (fun j hj=>k.block j (by rcases hj with rfl|hj;exact aac h.box;exact (h.lt j hj).2))
theorem Xd (X:Nat)(c:Ch)(L:List Ch)(v:Value)(w:World)(h:vO w X L v)(hL:L.length<=100000000): Calls Tryz.prog 55 #[.agg #[.string c.name,.string c.data],.pointer (some ⟨X,0,none⟩)] w fun e w'=>e=.returned (.tuple #[])/\∃v',vO w' X (L++[c]) v'/\Kp (fun k=>v.ownBlock=some k\/k=X) w w':=by
 obtain⟨i0,hi,hz0,hz1,hz2⟩:=abx Tryz.infoChunk;have hlx:=aac h.box;obtain⟨k0,q0,q1⟩:=bM w (.cells #[.string c.name,.string c.data] 83) (.cells #[.string c.name,.string c.data] 83);have h2:=h.below k0;have hsz2:((w.alloc (.cells #[.string c.name,.string c.data] 83)).alloc (.cells #[.string c.name,.string c.data] 83)).heap.size=w.heap.size+1+1:=by simp
 obtain⟨v',w',hr,ho',hg',_,_⟩:=run_append_own_at (P:=Tryz.prog) ((w.alloc (.cells #[.string c.name,.string c.data] 83)).alloc (.cells #[.string c.name,.string c.data] 83)) (X+1) 88 88 83 i0 _ 2 32 Tryz.underlying88 hi hz0 hz1 hz2 rfl (by decide) v L.length (fN L) h2.own ⟨w.heap.size+1,0,none⟩ 1 1 [.string c.name,.string c.data] rfl (fun j u hj=>by
   rw[ey,aaR,aU q1];simpa using hj) (fun u hu=>by
   simp only[ab5,abC,or_false]at hu
   rcases hu with rfl|rfl<;>rfl) (by unfold maxLen;omega) (by omega) (by omega)
 have hbx:w'.heap[X]?=some (.cells #[v] 88 (0,0)):=(hg'.block X (aac h2.box) (fun e=>by have:=(h2.lt X e.symm).1;omega)).trans h2.box
 have hsl:vO (w'.setCell ⟨X,0,none⟩ v') X (L++[c]) v' :=
  ⟨one_set hbx v',aL (by rw[aae,zi];exact ho') (fun g hg=>aam _ ⟨X,0,none⟩ _ g (fun e=>by have:=(ho'.lt g hg).1;dsimp only at e;omega))⟩
 have hkp:Kp (fun k=>v.ownBlock=some k\/k=X) w (w'.setCell ⟨X,0,none⟩ v') :=
  (Kp.grown (Kp.aH k0) hg' (fun k hk=>.inl (.inl hk))).setCell (p:=⟨X,0,none⟩) (.inl (.inr rfl)) _
 obtain⟨x0,x1,x2⟩:=one_cell hbx;have c0:=h.box.cell;have HH:Hid (_/\_):=⟨hsl,hkp⟩
 obtain⟨oa,oc,rfl⟩:=aX h.own;obtain⟨sH,oF,rfl⟩:=aX ho';clear h2 hsl hkp ho' hg' hbx k0 q0 q1 h hsz2
 go_enter Tryz.func55,Tryz.ntmps55
 go_wp2_with (at_builtin;refine aa8 _ rfl _ _ _ _ rfl _ _ rfl rfl _ _ hr ?_)
 go_end0
 exact⟨rfl,_,HH.out⟩
theorem Xe (args:Array Value)(w:World):(callFunc 55 args).run Tryz.prog w=.ok (.enter 55 args) w:=by kernel_rfl
def Tw:Value->Nat|.string s=>s.size|_=>0
theorem vO.bel {w w':World}{X:Nat}{L:List Ch}{v:Value}(h:vO w X L v)(k:Kp (fun k=>v.ownBlock=some k\/k=X) w w'):Below X w w' :=
 k.below (adf (aac h.box)) (fun j _ hj=>by
  rcases hj with hj|hj
  ·have:=(h.lt j hj).1;omega
  ·omega)
inductive FF (b:ByteArray) (X:Nat) (w:World):Ending->World->Prop
 | sig {w'}:gy b=false->Below X w w'->FF b X w (dies 10) w'
 | bad {w'}:gy b=true->aM (b.extract 8 b.size)=none->Below X w w'->FF b X w (dies 11) w'
 | ok {w' L v}:gy b=true->aM (b.extract 8 b.size)=some L->vO w' X L v->Below X w w'->FF b X w (.returned (.tuple #[])) w'
theorem Xg (b:ByteArray)(X:Nat)(w:World)(hs:b.size<=1000000000)(h:vO w X [] (.slice none 0 0)): Calls Tryz.prog 54 #[.string b,.func (.func 55) #[] #[.pointer (some ⟨X,0,none⟩)]] w fun e w'=>FF b X w e w':=by
 have hcut:=abO b w hs;have hcall:=Xe;have hX:=aac h.box;rcases Bool.eq_false_or_eq_true (gy b) with hsb|hsb;rotate_left
 ·rw[hsb,aag (by decide)]at hcut
  go_enter Tryz.func54,Tryz.ntmps54
  go_wp2_with fail;refine hcut.mono ?_;rintro e w' ⟨rfl,rfl⟩;go_wp2;exact⟨rfl,.sig hsb (aav _ _)⟩
 ·rw[hsb,aai rfl]at hcut;have HSB:Hid (gy b=true):=hsb;have Tx:(b.extract 8 b.size).size<=1000000000:=by rw[aaO];omega
  obtain⟨b8,CI⟩:∃b8,b.extract 8 b.size=b8:=⟨_,rfl⟩
  have RJ:Hid (b.extract 8 b.size=b8):=CI;rw[CI]at hcut Tx;clear CI;have HS:Hid (b8.size<=1000000000):=Tx;have ZG:Hid (vO w X [] (.slice none 0 0)):=h;clear hs Tx hsb h
  go_enter Tryz.func54,Tryz.ntmps54
  go_wp2_with fail;refine hcut.mono ?_;rintro e w' ⟨rfl,rfl⟩;clear hcut;go_wp2
  go_loopw [4] (fun rv wr=>∃(r:ByteArray) (L:List Ch) (v:Value),rv=.string r/\Hid (aM b8=(aM r).map (fun l=>L++l))/\Hid (vO wr X L v)/\Hid (L.length*12+r.size<=1000000000)/\Below X w' wr) (fun rv _=>Tw rv)
  case atStart=>exact⟨b8,[],.slice none 0 0,rfl,by show _=_;cases aM b8<;>rfl,ZG,by show _<=_;have:=HS.out;simp;omega,aav _ _⟩
  case round =>
   obtain⟨r,L,v,rfl,HC,HL,HZ,hbl⟩:=hrel;by_cases hr0:r.size=0
   ·have HD:Hid (aM b8=some L):=by show _=_;rw[HC.out,pB hr0];simp
    have abP:¬(r.size:Int)>0:=by omega
    clear HC;go_wp2
    go_end0
    exact .ok HSB.out (by rw[RJ.out];exact HD.out) HL.out hbl
   ·have abP:(r.size:Int)>0:=by omega
    have hfi:=Tr r wr (by have:=HZ.out;omega);unfold LD at hfi;have C9:Hid (r.size≠0):=hr0;clear hr0;go_wp2_with fail;refine hfi.mono ?_;rintro e w1 ⟨⟨hok,rfl⟩|⟨hno,rfl⟩,b1⟩
    ·have pO:Hid (ky r=true):=hok;have hL1:=HL.out.below b1;have B1:Below X w' w1:=hbl.trans (b1.mono (aba (adf hX) hbl.size));have hsz:=ot hok;have hrs:=jU hok
     have HD:Hid (aM b8=(aM (gL r)).map (fun l=>(L++[pA r])++l)):=by
      show _=_;rw[HC.out,jV C9.out hok];cases aM (gL r)<;>simp
     have hdl:(pA r).data.size=dY r:=by show (r.extract 8 (8+dY r)).size=_;rw[aaO];omega
     have hre:r.extract (12+dY r) r.size=gL r:=rfl;generalize hCH:pA r=c at *;generalize gL r=R2 at *;generalize dY r=n at *
     have HZ2:Hid ((L++[c]).length*12+R2.size<=1000000000/\R2.size<r.size/\L.length<=100000000):=by
      have:=HZ.out;show _/\_/\_;rw[aae,ab4];omega
     have hN:=ah w1 (.cells #[.string c.name,.string c.data] 83);have kN:=ae w1 (.cells #[.string c.name,.string c.data] 83);have hL2:=hL1.below kN;have B2:Below X w' (w1.alloc (.cells #[.string c.name,.string c.data] 83)):=B1.trans (kN.mono (aba (adf hX) B1.size));obtain⟨C,Xa⟩:∃C,w1.heap.size=C:=⟨_,rfl⟩
     have hCX:C≠X:=by have:=aac hL1.box;omega
     have hCv:v.ownBlock≠some C:=fun e=>by have:=(hL1.lt C e).2;omega
     have sq:=Xd X c L v _ hL2 HZ2.out.2.2;have HN:Hid ((w1.alloc (.cells #[.string c.name,.string c.data] 83)).heap[C]?=some (.cells #[.string c.name,.string c.data] 83 (0,0))/\vO (w1.alloc (.cells #[.string c.name,.string c.data] 83)) X L v):=⟨Xa▸hN,hL2⟩
     have n12:(n:Int)+12<=(r.size:Int):=by omega
     have s1:IntKind.i64.wrap (8+(n:Int))=8+(n:Int):=aan _ (by omega);have s2:IntKind.i64.wrap (8+(n:Int)+4)=((12+n:Nat):Int):=(aan _ (by omega)).trans (by omega);have s3:((12+n:Nat):Int)<=(r.size:Int):=by omega
     clear hfi HC HL HZ hbl b1 hL1 B1 hN kN hL2 hok hsz hrs pO hCH;go_wp2_with fail;refine sq.mono ?_;rintro e w3 ⟨rfl,v',hL3,Cv⟩;have Jj:w3.heap[C]?=some (.cells #[.string c.name,.string c.data] 83 (0,0)):=gE HN.out.1 Cv (fun e=>by rcases e with e|e;exact hCv e;exact hCX e);have B3:Below X w' w3:=B2.trans (HN.out.2.bel Cv);have Qj:Hid (vO w3 X (L++[c]) v'):=hL3;obtain⟨c0,c1,cf,cl⟩:=aP Jj;clear sq hL3 Cv B2 HN Jj Xa;have hcs:(c.data.size:Int)=(n:Int):=by omega
     go_wp2
     go_roundw
     case rel=>exact⟨R2,L++[c],v',by rw[hre],HD,Qj,HZ2.out.1,B3⟩
     case measure=>simp[Tw];have:=HZ2.out;omega
    ·have HD:Hid (aM b8=none):=by show _=_;rw[HC.out,pC C9.out hno];rfl
     have B1:Below X w' w1:=hbl.trans (b1.mono (aba (adf hX) hbl.size));clear HC hfi;go_wp2;exact⟨rfl,.bad HSB.out (by rw[RJ.out];exact HD.out) B1⟩
structure ChV (w:World) (v:Value) (L:List Ch):Prop where
 shape:(L=[]/\v=.slice none 0 0)\/∃g cap,v=.slice (some ⟨g,0,none⟩) L.length cap/\g<w.heap.size/\L.length<=cap/\∀j,j<L.length->w.cell? ⟨g,j*2,none⟩=some (.string (L.getD j ⟨⟨#[]⟩,⟨#[]⟩⟩).name)/\w.cell? ⟨g,j*2+1,none⟩=some (.string (L.getD j ⟨⟨#[]⟩,⟨#[]⟩⟩).data)
theorem Xh (L:List Ch)(j:Nat)(h:j<L.length):(fN L)[j*2]?=some (.string (L.getD j ⟨⟨#[]⟩,⟨#[]⟩⟩).name)/\(fN L)[j*2+1]?=some (.string (L.getD j ⟨⟨#[]⟩,⟨#[]⟩⟩).data):=by
 induction L generalizing j with
 | nil=>simp at h
 | cons x r ih =>
  have e:fN (x::r)=[.string x.name,.string x.data]++fN r:=by simp[fN]
  cases j with
  | zero=>rw[e];exact⟨rfl,rfl⟩
  | succ j =>
   have:=ih j (by simpa using h);rw[e,show (j+1)*2=2+j*2 by omega,show 2+j*2+1=2+(j*2+1) by omega];rw[aax (by simp),aax (by simp)];simpa using this
theorem vO.val {w:World}{X:Nat}{L:List Ch}{v:Value}(h:vO w X L v):ChV w v L:=by
 constructor;rcases h.own.2 with⟨hv,h0⟩|⟨g,cap,cur,hv,hg,hblk,hnc,hcm,hcs,htake⟩
 ·exact .inl ⟨aaL h0,hv⟩
 ·refine .inr ⟨g,cap,hv,aac hblk,hnc,fun j hj=>?_⟩;obtain⟨a,b⟩:=Xh L j hj;have hl:=uY L;rw[<-htake,ab6,aai (by omega),adc]at a b;exact⟨(aU hblk _).trans a,(aU hblk _).trans b⟩
inductive LG (L:List Ch) (w:World):Ending->World->Prop
 | no {w'}:cA L=none->Below w.heap.size w w'->LG L w (dies 12) w'
 | ok {w' P}:cA L=some P->Below w.heap.size w w'->LG L w (.returned (.agg #[.string P.head,.bool P.aq.isSome,.string (P.aq.getD ⟨#[]⟩),.string P.data])) w'
theorem LH {L:List Ch}(h:cE (fX L).name [] none (dN L)=none):cA L=none:=by
 unfold cA;split
 ·rw[h]
 ·rfl
theorem LJ {L:List Ch}{d:List ByteArray}{p:Option ByteArray}(he:iW L=true)(h:cE (fX L).name [] none (dN L)=some (d,p)):cA L=if d.isEmpty=true then none else some ⟨(fX L).data,p,eO d⟩:=by
 unfold cA;rw[aai he,h]
theorem uZ {L:List Ch}{n:Nat}(hn:L.length=n+2):(dN L).length=n:=by
 unfold dN;rw[acf,aaX];omega
theorem LK {L:List Ch}{n k:Nat}(hn:L.length=n+2)(hk:k<n):(dN L).drop k=L.getD (k+1) ⟨⟨#[]⟩,⟨#[]⟩⟩::(dN L).drop (k+1):=by
 have hm:=uZ hn;rw[List.drop_eq_getElem_cons (by omega)]
 congr 1
 unfold dN;rw[List.getElem_drop,List.getElem_take,aad,aaj (by omega)];simp only[adn]
 congr 1
 omega
theorem mid_end {L:List Ch}{n:Nat}(hn:L.length=n+2):(dN L).drop n=[]:=List.drop_eq_nil_of_le (by rw[uZ hn];exact aaf _)
theorem OX (nm dt:ByteArray)(w:World)(h:0<nm.size): Calls Tryz.prog 90 #[.agg #[.string nm,.string dt]] w fun e w'=>e=.returned (.bool (gU (af nm 0)))/\Below w.heap.size w w':=by
 have hb:=ct nm 0 h;have hb2:=cu nm 0;have hcap:=fun v=>Bt (af nm 0) v;have h0:(0:Int)<(nm.size:Int):=by omega
 generalize af nm 0=c at *;generalize gU c=cb at *
 go_enter Tryz.func90,Tryz.ntmps90
 go_wp2_with (go_at_call 131;refine (hcap _).mono ?_;rintro e w' ⟨rfl,rfl⟩)
 go_ret
 exact⟨rfl,ae _ _⟩
theorem Tryz.infoStr:(Tryz.prog.info? 9).map (fun i=>(i.zero,i.size,i.bytes))=some (some (.string ⟨#[]⟩),1,16):=by kernel_rfl
abbrev strs (d:List ByteArray):List Value:=d.map Value.string
theorem LL {u:World}{base:Nat}{v:Value}{d:List ByteArray}(h:u.ownsRow base 9 1 v d.length (strs d))(x:ByteArray)(hd:d.length<=100000000)(hb:base<=u.heap.size)(ty:TypeId): ∃v' w',(Builtin.append_ #[38,38] ty #[v,.slice (some ⟨u.heap.size,0,none⟩) 1 1]).run Tryz.prog (u.alloc (.cells #[.string x] 9))=.ok v' w'/\w'.ownsRow base 9 1 v' (d++[x]).length (strs (d++[x]))/\(u.alloc (.cells #[.string x] 9)).grownBy w' v.ownBlock:=by
 obtain⟨i0,hi,hz0,hz1,hz2⟩:=abx Tryz.infoStr;have hq:=ah u (.cells #[.string x] 9)
 obtain⟨v',w',hr,ho',hg',_,_⟩:=run_append_own_at (P:=Tryz.prog) (u.alloc (.cells #[.string x] 9)) base 38 ty 9 i0 _ 1 16 Tryz.underlying38 hi hz0 hz1 hz2 rfl (by decide) v d.length (strs d) (h.alloc _) ⟨u.heap.size,0,none⟩ 1 1 [.string x] rfl (fun j y hj=>by
   rw[ey,aaR,aU hq];simpa using hj) (fun y hy=>by
   simp only[ab5,abC,or_false]at hy
   rw[hy];rfl) (by unfold maxLen;omega) (by omega) (by simp;omega)
 refine⟨v',w',hr,?_,hg'⟩;have e:strs (d++[x])=strs d++[.string x]:=by simp[strs]
 rw[e,aae];exact ho'
theorem Tryz.infoParts:(Tryz.prog.info? 66).map (·.size)=some 4:=by kernel_rfl
def jc (L:List Ch):Nat:=(L.map fun c=>c.data.size).sum
theorem Ib (d:List ByteArray)(x:ByteArray):(eO (d++[x])).size=(eO d).size+x.size:=by
 induction d with
 | nil=>simp only[aa9,eO,ByteArray.size_append];omega
 | cons y r ih=>simp only[abv,eO,ByteArray.size_append,ih];omega
theorem LM (a:ByteArray)(d:List ByteArray)(p:Option ByteArray)(M:List Ch)(d':List ByteArray)(p':Option ByteArray)(h:cE a d p M=some (d',p')):(eO d').size<=(eO d).size+jc M:=by
 induction M generalizing a d p with
 | nil =>
  simp only[cE,acv,Prod.mk.injEq]at h;rw[h.1];exact Nat.le_add_right _ _
 | cons c r ih =>
  have es:jc (c::r)=c.data.size+jc r:=by simp[jc]
  unfold cE at h;split at h
  ·have:=ih _ _ _ h;rw[Ib]at this;omega
  ·split at h
   ·have:=ih _ _ _ h;omega
   ·split at h
    ·cases h
    ·have:=ih _ _ _ h;omega
theorem LO (L:List Ch):jc (dN L)<=jc L:=by
 have h1:∀(M:List Ch) k,jc (M.take k)<=jc M:=fun M k=>by
  conv=>rhs;rw[<-acD k M]
  unfold jc;rw[aca,List.sum_append];omega
 have h2:∀(M:List Ch) k,jc (M.drop k)<=jc M:=fun M k=>by
  conv=>rhs;rw[<-acD k M]
  unfold jc;rw[aca,List.sum_append];omega
 exact aba (h2 _ _) (h1 _ _)
theorem Bx (d:List ByteArray):Lib.join (d.map (·.data.toList)) []=(eO d).data.toList:=by
 induction d with
 | nil=>rfl
 | cons x r ih =>
  rw[acR,Lib.join_cons]
  have e:Lib.joinTail [] (r.map (·.data.toList))=Lib.join (r.map (·.data.toList)) []:=by
   cases r with
   | nil=>rfl
   | cons y t=>rw[acR,Lib.join_cons];simp[Lib.joinTail]
  rw[e,ih];simp[eO,ByteArray.data_append]
theorem LP (L:List Ch)(v:Value)(w:World)(hv:ChV w v L)(hL:L.length<=100000000)(htot:jc L<=100000000000)(hnm:∀c∈L,0<c.name.size): Calls Tryz.prog 56 #[v] w fun e w'=>LG L w e w':=by
 have HT:Hid (jc L<=100000000000):=htot;clear htot;by_cases h2:L.length<2
 ·have HE:Hid (cA L=none):=by
   show _=_;unfold cA iW;rw[abT (by omega),abN,aag (by decide)]
  have h2i:(L.length:Int)-1<1:=by omega
  obtain⟨ao,cap,rfl⟩:∃ao cap,v=.slice ao L.length cap:=by
   rcases hv.shape with⟨rfl,rfl⟩|⟨g,cap,rfl,_⟩
   ·exact⟨_,_,rfl⟩
   ·exact⟨_,_,rfl⟩
  clear hv;generalize L.length=n at *
  go_enter Tryz.func56,Tryz.ntmps56
  go_wp2;exact⟨rfl,.no HE.out (ae _ _)⟩
 ·obtain⟨g,cap,rfl,hg,hcap,hc⟩:∃g cap,v=.slice (some ⟨g,0,none⟩) L.length cap/\g<w.heap.size/\L.length<=cap/\∀j,j<L.length->w.cell? ⟨g,j*2,none⟩=some (.string (L.getD j ⟨⟨#[]⟩,⟨#[]⟩⟩).name)/\w.cell? ⟨g,j*2+1,none⟩=some (.string (L.getD j ⟨⟨#[]⟩,⟨#[]⟩⟩).data):=by
   rcases hv.shape with⟨rfl,rfl⟩|h
   ·simp at h2
   ·exact h
  obtain⟨n,hn⟩:∃n,L.length=n+2:=⟨L.length-2,by omega⟩
  have f0:=hc 0 (by omega);have f1:=hc (n+1) (by omega);have HC:Hid (∀j,j<L.length->w.cell? ⟨g,j*2,none⟩=some (.string (L.getD j ⟨⟨#[]⟩,⟨#[]⟩⟩).name)/\w.cell? ⟨g,j*2+1,none⟩=some (.string (L.getD j ⟨⟨#[]⟩,⟨#[]⟩⟩).data)):=hc;have hl1:((n:Int)+2-1)=(n:Int)+1:=by omega
  have DG:Hid (∀j,j<L.length->0<(L.getD j ⟨⟨#[]⟩,⟨#[]⟩⟩).name.size):=fun j hj=>hnm _ (by rw[aad,aaj hj];exact abl _);clear hv hc h2 hnm;rw[hn];generalize hF:L.getD 0 ⟨⟨#[]⟩,⟨#[]⟩⟩=F at *;generalize hLa:L.getD (n+1) ⟨⟨#[]⟩,⟨#[]⟩⟩=La at *;have hn1:¬(n:Int)+1<1:=by omega
  have Xi:Hid (iW L=((F.name.toList==[73,72,68,82])&&((La.name.toList==[73,69,78,68])&&La.data.toList.isEmpty))):=by
   show _=_;unfold iW fX jC iV;rw[hn,show n+2-1=n+1 by omega,hF,hLa,abh (by omega),ade]
  cases hq1:(F.name.toList==[73,72,68,82])
  ·have pN:Hid (cA L=none):=by show _=_;unfold cA;rw[Xi.out,hq1,abN,aag (by decide)]
   go_enter Tryz.func56,Tryz.ntmps56
   go_wp2;exact⟨rfl,.no pN.out (ae _ _)⟩
  ·cases hq2:(La.name.toList==[73,69,78,68])
   ·have pN:Hid (cA L=none):=by show _=_;unfold cA;rw[Xi.out,hq1,hq2,abN,Bool.and_false,aag (by decide)]
    go_enter Tryz.func56,Tryz.ntmps56
    go_wp2;exact⟨rfl,.no pN.out (ae _ _)⟩
   ·cases hq3:La.data.toList.isEmpty
    ·have pN:Hid (cA L=none):=by show _=_;unfold cA;rw[Xi.out,hq1,hq2,hq3,Bool.and_false,Bool.and_false,aag (by decide)]
     go_enter Tryz.func56,Tryz.ntmps56
     go_wp2;exact⟨rfl,.no pN.out (ae _ _)⟩
    ·have QL:Hid (iW L=true):=by show _=_;rw[Xi.out,hq1,hq2,hq3];rfl
     have hfc:fX L=F:=hF;have Xj:Hid (cE F.name [] none (dN L)=none->cA L=none):=fun h=>LH (by rw[hfc];exact h);have HOS:Hid (∀d p,cE F.name [] none (dN L)=some (d,p)->cA L=if d.isEmpty=true then none else some ⟨F.data,p,eO d⟩):=fun d p h=>by rw[LJ QL.out (by rw[hfc];exact h),hfc]
     obtain⟨k0,q0,q1⟩:=bM w (.cells #[.string ⟨#[]⟩,.bool false,.string ⟨#[]⟩,.string ⟨#[]⟩] 66) (.cells #[.string F.data,.bool false,.string ⟨#[]⟩,.string ⟨#[]⟩] 66);have HF0:Hid (L.getD 0 ⟨⟨#[]⟩,⟨#[]⟩⟩=F):=hF;clear hfc hF
     go_enter Tryz.func56,Tryz.ntmps56
     go_wp2;clear Xi hq1 hq2 hq3 hLa
     go_loopw [5,39] (fun dv kv wr=>∃(k:Nat) (d:List ByteArray) (p:Option ByteArray),kv=.int .i64 k/\k<=n/\Hid (cE F.name [] none (dN L)=cE (L.getD k ⟨⟨#[]⟩,⟨#[]⟩⟩).name d p ((dN L).drop k))/\Hid (wr.heap[w.heap.size+1]?=some (.cells #[.string F.data,.bool p.isSome,.string (p.getD ⟨#[]⟩),.string ⟨#[]⟩] 66 (0,0)))/\Hid (wr.heap[w.heap.size]?=some (.cells #[.string ⟨#[]⟩,.bool false,.string ⟨#[]⟩,.string ⟨#[]⟩] 66 (0,0)))/\Hid (wr.ownsRow (w.heap.size+2) 9 1 dv d.length (strs d))/\Hid (d.length<=k)/\Below w.heap.size w wr) (fun _ kv _=>n-(intOf kv).toNat)
     case atStart=>exact⟨0,[],none,rfl,aao _,by show _=_;rw[HF0.out];rfl,q1,q0,⟨rfl,.inl ⟨rfl,rfl⟩⟩,aaf _,k0⟩
     case round =>
      clear q0 q1 k0;obtain⟨k,d,p,rfl,hkn,HO,HP,HR,HD,OP,hbl⟩:=hrel;by_cases hlt:k<n
      ·have H5:(k:Int)<(n:Int):=by omega
       have HMD:Hid ((dN L).drop k=L.getD (k+1) ⟨⟨#[]⟩,⟨#[]⟩⟩::(dN L).drop (k+1)):=LK hn hlt;have ca:=HC.out k (by omega);have cc:=HC.out (k+1) (by omega);have c1:wr.cell? ⟨g,k*2,none⟩=some (.string (L.getD k ⟨⟨#[]⟩,⟨#[]⟩⟩).name):=(hbl.cell (p:=⟨g,k*2,none⟩) hg).trans ca.1;have c2:wr.cell? ⟨g,2+k*2,none⟩=some (.string (L.getD (k+1) ⟨⟨#[]⟩,⟨#[]⟩⟩).name):=(hbl.cell (p:=⟨g,2+k*2,none⟩) hg).trans (by rw[show 2+k*2=(k+1)*2 by omega];exact cc.1);have c3:wr.cell? ⟨g,2+k*2+1,none⟩=some (.string (L.getD (k+1) ⟨⟨#[]⟩,⟨#[]⟩⟩).data):=(hbl.cell (p:=⟨g,2+k*2+1,none⟩) hg).trans (by rw[show 2+k*2+1=(k+1)*2+1 by omega];exact cc.2);have hnc:=DG.out (k+1) (by omega);clear ca cc;generalize L.getD k ⟨⟨#[]⟩,⟨#[]⟩⟩=A at *;generalize hck:L.getD (k+1) ⟨⟨#[]⟩,⟨#[]⟩⟩=c at *;have ZH:Hid (L.getD (k+1) ⟨⟨#[]⟩,⟨#[]⟩⟩=c):=hck;clear hck;have hgw:g<wr.heap.size:=aa3 hg hbl.size;have kU:=ae wr (.cells #[.string c.name,.string c.data] 83);have hCU:=ah wr (.cells #[.string c.name,.string c.data] 83);have Ty:=(kU.block _ (aac HP.out)).trans HP.out;have hRU:=(kU.block _ (aac HR.out)).trans HR.out;have Xk:=HD.out.alloc (.cells #[.string c.name,.string c.data] 83);have BU:Below w.heap.size w (wr.alloc (.cells #[.string c.name,.string c.data] 83)):=hbl.trans (kU.mono hbl.size);have ahh:w.heap.size+2<=wr.heap.size:=by have:=aac HP.out;omega
       have Ea:=fun v=>OX c.name c.data v hnc
       have HCAP:Hid (iV c.name cj=true\/iV c.name cM=true->gU (af c.name 0)=true):=fun h=>by
        rcases h with h|h<;>(have:=zg h;unfold af;rw[this];rfl)
       have HIP:Hid (iV c.name cj=true->iV c.name cM=false):=fun h=>ib h (by decide);rw[HMD.out]at HO;have vP:Hid (cE F.name [] none (dN L)=if (iV c.name cj&&(d.isEmpty||iV A.name cj))=true then cE c.name (d++[c.data]) p ((dN L).drop (k+1)) else if (iV c.name cM&&d.isEmpty&&p.isNone)=true then cE c.name d (some c.data) ((dN L).drop (k+1)) else if gU (af c.name 0)=true then none else cE c.name d p ((dN L).drop (k+1))):=HO.out;have hps:=LL Xk c.data (by have:=OP.out;omega) (by simp;omega) 38;have HPS:Hid (_):=hps;have U6:Hid (d.isEmpty=decide (d.length=0)):=by show _=_;cases d<;>rfl
       obtain⟨oa,oc,hdv⟩:=aV HD.out;subst hdv;have ahi:w.heap.size+1≠wr.heap.size:=by omega
       clear HMD HO HP HR hps hbl kU DG;have eI:iV c.name cj=(c.name.toList==[73,68,65,84]):=rfl;have eA:iV A.name cj=(A.name.toList==[73,68,65,84]):=rfl;have eP:iV c.name cM=(c.name.toList==[80,76,84,69]):=rfl;rw[eI,eA,eP,U6.out]at vP;rw[eI,eP]at HCAP HIP;clear eI eA eP U6;generalize hbI:(c.name.toList==[73,68,65,84])=bI at *;generalize hbA:(A.name.toList==[73,68,65,84])=bA at *;generalize hbP:(c.name.toList==[80,76,84,69])=bP at *;generalize gU (af c.name 0)=cB at *;generalize hm:d.length=m at *;have HM:Hid (d.length=m):=hm;clear hm;have Tz:bI=true->bP=false:=HIP.out
       have hm0:m=0\/(m≠0/\((m:Int)==0)=false):=by
        rcases Nat.eq_zero_or_pos m with h|h
        ·exact .inl h
        ·exact .inr ⟨by omega,by simp;omega⟩
       have HK:Hid (Below w.heap.size w (wr.alloc (.cells #[.string c.name,.string c.data] 83))):=BU;obtain⟨v',w2,hr,ho',hg'⟩:=HPS.out;simp only[aap]at hr
       have HG:Hid (w2.ownsRow (w.heap.size+2) 9 1 v' (d++[c.data]).length (strs (d++[c.data]))/\w2.heap[w.heap.size+1]?=some (.cells #[.string F.data,.bool p.isSome,.string (p.getD ⟨#[]⟩),.string ⟨#[]⟩] 66 (0,0))/\w2.heap[w.heap.size]?=some (.cells #[.string ⟨#[]⟩,.bool false,.string ⟨#[]⟩,.string ⟨#[]⟩] 66 (0,0))/\Below w.heap.size w w2):=by
        have NT:∀j,j<w.heap.size+2->w2.heap[j]?=(wr.alloc (.cells #[.string c.name,.string c.data] 83)).heap[j]?:=fun j hj=>by
         have hsz:j<(wr.alloc (.cells #[.string c.name,.string c.data] 83)).heap.size:=by simp;omega
         rw[hg'.block j (by simp;omega) (fun e=>by have:=(Xk.lt j e.symm).1;omega)];exact (ae (wr.alloc (.cells #[.string c.name,.string c.data] 83)) _).block j hsz
        refine⟨ho',(NT _ (by omega)).trans Ty,(NT _ (by omega)).trans hRU,?_⟩;have hgr:Kp (fun j=>(Value.slice oa m oc).ownBlock=some j) (wr.alloc (.cells #[.string c.name,.string c.data] 83)) w2:=Kp.grown (Kp.aH (ae _ _)) hg' (fun j hj=>.inl hj);exact BU.trans (hgr.below (by simp;omega) (fun j _ hj=>by have:=(Xk.lt j hj).1;omega))
       obtain⟨sH,oF,hv'⟩:=aV HG.out.1;subst hv';obtain⟨M,hM⟩:∃M,(d++[c.data]).length=M:=⟨_,rfl⟩
       have HM2:Hid ((d++[c.data]).length=M):=hM;have HOW:Hid (w2.ownsRow (w.heap.size+2) 9 1 (.slice sH M oF) (d++[c.data]).length (strs (d++[c.data]))):=by have:=HG.out.1;rw[hM]at this ⊢;exact this
       rw[hM]at hr;have ZI:Hid ((wr.alloc (.cells #[.string c.name,.string c.data] 83)).ownsRow (w.heap.size+2) 9 1 (.slice oa m oc) d.length (strs d)):=by show World.ownsRow _ _ _ _ _ _ _;rw[HM.out];exact Xk
       have HPU:Hid (_):=Ty;have HRU:Hid (_):=hRU;have HEX:Hid (∀(w3:World),Below (wr.alloc (.cells #[.string c.name,.string c.data] 83)).heap.size (wr.alloc (.cells #[.string c.name,.string c.data] 83)) w3->cE F.name [] none (dN L)=cE c.name d p ((dN L).drop (k+1))->∃(k':Nat) (d':List ByteArray) (p':Option ByteArray),Value.int .i64 ((k:Int)+1)=.int .i64 k'/\k'<=n/\Hid (cE F.name [] none (dN L)=cE (L.getD k' ⟨⟨#[]⟩,⟨#[]⟩⟩).name d' p' ((dN L).drop k'))/\Hid (w3.heap[w.heap.size+1]?=some (.cells #[.string F.data,.bool p'.isSome,.string (p'.getD ⟨#[]⟩),.string ⟨#[]⟩] 66 (0,0)))/\Hid (w3.heap[w.heap.size]?=some (.cells #[.string ⟨#[]⟩,.bool false,.string ⟨#[]⟩,.string ⟨#[]⟩] 66 (0,0)))/\Hid (w3.ownsRow (w.heap.size+2) 9 1 (.slice oa m oc) d'.length (strs d'))/\Hid (d'.length<=k')/\Below w.heap.size w w3):=fun w3 hb ho=>⟨k+1,d,p,rfl,hlt,by show _=_;rw[ho,ZH.out],(hb.block _ (aac HPU.out)).trans HPU.out,(hb.block _ (aac HRU.out)).trans HRU.out,aL ZI.out (fun j hj=>hb.block j (ZI.out.lt j hj).2),by show _<=_;have:=HM.out;have:=OP.out;omega,HK.out.trans (hb.mono (by simp;omega))⟩
       clear HPS ho' hg' Xk HD BU hM;have hnx:n-(k+1)<n-k:=by omega
       cases bI
       ·rw[abN,aag (by decide)]at vP;cases bP
        ·rw[abN,abN]at vP;have mF:Hid (cE F.name [] none (dN L)=if cB=true then none else cE c.name d p ((dN L).drop (k+1))):=by show _=_;rw[vP.out];exact aag (by decide)
         clear vP hr;cases cB
         ·rw[aag (by decide)]at mF;go_wp2_with fail;refine (Ea _).mono ?_;rintro e w3 ⟨rfl,hb3⟩;go_wp2
          go_roundw
          case rel=>exact HEX.out w3 hb3 mF.out
          case measure=>exact hnx
         ·rw[aai rfl]at mF;have pN:Hid (cA L=none):=Xj.out mF.out;go_wp2_with fail;refine (Ea _).mono ?_;rintro e w3 ⟨rfl,hb3⟩;go_wp2;exact⟨rfl,.no pN.out (HK.out.trans (hb3.mono (by simp;omega)))⟩
        ·rw[ade]at vP;rcases hm0 with rfl|⟨hm1,hm2⟩
         ·rw[abh rfl,ade]at vP;cases p with
          | none =>
           have mF:Hid (cE F.name [] none (dN L)=cE c.name d (some c.data) ((dN L).drop (k+1))):=vP.out;have pc1:=(aU Ty 1).trans (show _=some (Value.bool false) from rfl);have pc2:=(aU Ty 2).trans (show _=some (Value.string ⟨#[]⟩) from rfl);have pf:=fun j=>aaM _ (w.heap.size+1) j _ _ Ty;have pl:=aac Ty;clear vP hr;go_wp2
           go_roundw
           case rel =>
            have hne1:∀j,j≠w.heap.size+1->(((wr.alloc (.cells #[.string c.name,.string c.data] 83)).setCell ⟨w.heap.size+1,2,none⟩ (.string c.data)).setCell ⟨w.heap.size+1,1,none⟩ (.bool true)).heap[j]?=(wr.alloc (.cells #[.string c.name,.string c.data] 83)).heap[j]?:=fun j hj=>(aam _ ⟨w.heap.size+1,1,none⟩ _ j (fun e=>by dsimp only at e;omega)).trans (aam _ ⟨w.heap.size+1,2,none⟩ _ j (fun e=>by dsimp only at e;omega));refine⟨k+1,d,some c.data,rfl,hlt,by show _=_;rw[mF.out,ZH.out],?_,(hne1 _ (by omega)).trans HRU.out,aL ZI.out (fun j hj=>hne1 j (fun e=>by have:=(ZI.out.lt j hj).1;omega)),by show _<=_;rw[HM.out];exact aao _,?_⟩
            ·exact (aau _ (w.heap.size+1) 1 _ _ _ ((aau _ (w.heap.size+1) 2 _ _ _ HPU.out).trans rfl)).trans rfl
            ·exact (HK.out.setCell (p:=⟨w.heap.size+1,2,none⟩) (by dsimp only;omega) _).setCell (p:=⟨w.heap.size+1,1,none⟩) (by dsimp only;omega) _
           case measure=>exact hnx
          | some p0 =>
           have mF:Hid (cE F.name [] none (dN L)=if cB=true then none else cE c.name d (some p0) ((dN L).drop (k+1))):=by show _=_;rw[vP.out];exact aag (by simp)
           clear vP hr;have pc1:=(aU Ty 1).trans (show _=some (Value.bool true) from rfl);cases cB
           ·rw[aag (by decide)]at mF;go_wp2_with fail;refine (Ea _).mono ?_;rintro e w3 ⟨rfl,hb3⟩;go_wp2
            go_roundw
            case rel=>exact HEX.out w3 hb3 mF.out
            case measure=>exact hnx
           ·rw[aai rfl]at mF;have pN:Hid (cA L=none):=Xj.out mF.out;go_wp2_with fail;refine (Ea _).mono ?_;rintro e w3 ⟨rfl,hb3⟩;go_wp2;exact⟨rfl,.no pN.out (HK.out.trans (hb3.mono (by simp;omega)))⟩
         ·rw[abT hm1,abN]at vP;have mF:Hid (cE F.name [] none (dN L)=if cB=true then none else cE c.name d p ((dN L).drop (k+1))):=by show _=_;rw[vP.out];exact aag (by decide)
          clear vP hr;cases cB
          ·rw[aag (by decide)]at mF;go_wp2_with fail;refine (Ea _).mono ?_;rintro e w3 ⟨rfl,hb3⟩;go_wp2
           go_roundw
           case rel=>exact HEX.out w3 hb3 mF.out
           case measure=>exact hnx
          ·rw[aai rfl]at mF;have pN:Hid (cA L=none):=Xj.out mF.out;go_wp2_with fail;refine (Ea _).mono ?_;rintro e w3 ⟨rfl,hb3⟩;go_wp2;exact⟨rfl,.no pN.out (HK.out.trans (hb3.mono (by simp;omega)))⟩
       ·rcases hm0 with rfl|⟨hm1,hm2⟩
        ·go_wp2_with (at_builtin;refine aa8 _ rfl _ _ _ _ rfl _ _ rfl rfl _ _ hr ?_)
         go_roundw
         case rel=>exact⟨k+1,d++[c.data],p,rfl,hlt,by show _=_;rw[vP.out,ZH.out];rfl,HG.out.2.1,HG.out.2.2.1,HOW,by show _<=_;rw[aae,HM.out];simp,HG.out.2.2.2⟩
         case measure=>exact hnx
        ·cases bA
         ·have pN:Hid (cA L=none):=Xj.out (by rw[vP.out,HCAP.out (.inl rfl),Tz rfl,abT hm1];rfl);have hcb:cB=true:=HCAP.out (.inl rfl);have hbp:=Tz rfl;subst hcb;subst hbp;clear HCAP HIP Tz vP hr;go_wp2_with fail;refine (Ea _).mono ?_;rintro e w3 ⟨rfl,hb3⟩;go_wp2;exact⟨rfl,.no pN.out (HK.out.trans (hb3.mono (by simp;omega)))⟩
         ·go_wp2_with (at_builtin;refine aa8 _ rfl _ _ _ _ rfl _ _ rfl rfl _ _ hr ?_)
          go_roundw
          case rel=>exact⟨k+1,d++[c.data],p,rfl,hlt,by show _=_;rw[vP.out,ZH.out,Bool.or_true];rfl,HG.out.2.1,HG.out.2.2.1,HOW,by show _<=_;have:=HM.out;have:=OP.out;rw[aae];simp;omega,HG.out.2.2.2⟩
          case measure=>exact hnx
      ·have hke:k=n:=by omega
       subst hke;have HE:Hid (cE F.name [] none (dN L)=some (d,p)):=by show _=_;rw[HO.out,mid_end hn];rfl
       have hnl:¬(k:Int)<(k:Int):=by omega
       have Qh:=HOS.out d p HE.out;have OY:Hid (_):=Qh;obtain⟨oa,oc,hdv⟩:=aV HD.out;subst hdv;clear Qh HO HOS Xj;rcases Nat.eq_zero_or_pos d.length with hd0|hd0
       ·have pN:Hid (cA L=none):=by show _=_;rw[OY.out,aai (by simpa using hd0)]
        clear OY HE;generalize d.length=m at *;subst hd0;go_wp2;exact⟨rfl,.no pN.out hbl⟩
       ·have UK:Hid (cA L=some ⟨F.data,p,eO d⟩):=by show _=_;rw[OY.out,aag (by simp;intro e;rw[e]at hd0;simp at hd0)]
        obtain⟨g2,cap2,rfl,rfl,hg2,hcap2,hc2⟩:∃g2 cap2,oa=some ⟨g2,0,none⟩/\oc=cap2/\g2<wr.heap.size/\d.length<=cap2/\∀(j:Nat) x,d[j]?=some x->wr.cell? ⟨g2,0+j,none⟩=some (.string x):=by
         rcases HD.out.2 with⟨_,h0⟩|⟨g2,cap2,cur,hv2,_,hblk,hnc,_,_,htake⟩
         ·omega
         ·injection hv2 with e1 e2 e3;refine⟨g2,cap2,e1,e3,aac hblk,hnc,fun j x hj=>?_⟩;have hjl:j<d.length:=(List.getElem?_eq_some_iff.mp hj).1;have hx:(strs d)[j]?=some (.string x):=by rw[abQ,hj];rfl
          rw[<-htake,ab6,aai (by omega),adc]at hx;rw[aaR,aU hblk];exact hx
        have hjo:=Tryz.strings_Join g2 0 oc d ⟨#[]⟩ wr hc2 hg2 (by have:=OP.out;omega) hcap2 (by
         show (Lib.join _ []).length<=_;rw[Bx];have h9:=LM _ _ _ _ _ _ HE.out;have h8:=LO L;have h7:=HT.out;have h6:(eO []).size=0:=rfl;have h5:(eO d).data.toList.length=(eO d).size:=abk
         omega)
        have ej:(⟨(Lib.join (d.map (·.data.toList)) ([]:List UInt8)).toArray⟩:ByteArray)=eO d:=by rw[Bx]
        have Xl:Calls Tryz.prog 91 #[.slice (some ⟨g2,0,none⟩) d.length oc,.string ⟨#[]⟩] wr fun e w'=>e=.returned (.string (eO d))/\Below wr.heap.size wr w':=hjo.mono (by
         rintro e w' ⟨rfl,hb⟩
         exact⟨abY (fun x=>Ending.returned (Value.string x)) ej,hb⟩)
        have hdn:((d.length:Int)==0)=false:=by rw[aa2];intro e;omega
        clear hjo ej hc2 hcap2 hg2 HD HE OY OP HT HC DG;generalize d.length=m at *;generalize eO d=D at *;go_wp2_with fail;refine Xl.mono ?_;rintro e w4 ⟨rfl,hb4⟩;have P4:=(hb4.block _ (aac HP.out)).trans HP.out;have R4:=(hb4.block _ (aac HR.out)).trans HR.out;have B4:Below w.heap.size w w4:=hbl.trans (hb4.mono hbl.size);have oM:=(aU P4 0).trans (show _=some (Value.string F.data) from rfl);have pc1:=(aU P4 1).trans (show _=some (Value.bool p.isSome) from rfl);have pc2:=(aU P4 2).trans (show _=some (Value.string (p.getD ⟨#[]⟩)) from rfl);have pc3:=(aU P4 3).trans (show _=some (Value.string ⟨#[]⟩) from rfl);have pf:=fun j=>aaM _ (w.heap.size+1) j _ _ P4;have pl:=aac P4;have rf:=fun j=>aaM _ w.heap.size j _ _ R4;have rl:=aac R4;have rc0:=(aU R4 0).trans (show _=some (Value.string ⟨#[]⟩) from rfl);have rc1:=(aU R4 1).trans (show _=some (Value.bool false) from rfl);have rc2:=(aU R4 2).trans (show _=some (Value.string ⟨#[]⟩) from rfl);have rc3:=(aU R4 3).trans (show _=some (Value.string ⟨#[]⟩) from rfl);clear Xl hb4 hbl HP HR;go_wp2;have hend:=(aau _ w.heap.size 3 _ _ (.string D) ((aau _ w.heap.size 2 _ _ (.string (p.getD ⟨#[]⟩)) ((aau _ w.heap.size 1 _ _ (.bool p.isSome) ((aau _ w.heap.size 0 _ _ (.string F.data) ((aam w4 ⟨w.heap.size+1,3,none⟩ (.string D) w.heap.size (fun e=>by dsimp only at e;omega)).trans R4)).trans rfl)).trans rfl)).trans rfl)).trans (show _=some (Obj.cells #[.string F.data,.bool p.isSome,.string (p.getD ⟨#[]⟩),.string D] 66 (0,0)) from rfl);exact aaG (v:=.agg #[.string F.data,.bool p.isSome,.string (p.getD ⟨#[]⟩),.string D]) (results_cell_row rfl _ _ w.heap.size 66 _ (0,0) _ rfl hend Tryz.underlying66 rfl Tryz.infoParts) rfl (.ok UK.out (((((B4.setCell (p:=⟨w.heap.size+1,3,none⟩) (by dsimp only;omega) _).setCell (p:=⟨w.heap.size,0,none⟩) (by dsimp only;omega) _).setCell (p:=⟨w.heap.size,1,none⟩) (by dsimp only;omega) _).setCell (p:=⟨w.heap.size,2,none⟩) (by dsimp only;omega) _).setCell (p:=⟨w.heap.size,3,none⟩) (by dsimp only;omega) _))
theorem xM:∀(f:Nat) (b:ByteArray) (L:List Ch),LC f b=some L->12*L.length+jc L=b.size/\∀c∈L,c.name.size=4/\eK (af c.name 0)=true
 | 0,_,_,h=>by cases h
 | f+1,b,L,h=>by
  rw[LC]at h;split at h
  ·rename_i h0;injection h with h;subst h;exact⟨by rw[h0];rfl,fun c hc=>absurd hc (abC)⟩
  ·split at h
   ·rename_i hk;obtain⟨l,hl,rfl⟩:=Option.map_eq_some_iff.mp h;have hs:=jU hk;have hz:=ot hk;obtain⟨a1,a2⟩:=xM f (gL b) l hl
    have e1:(pA b).data.size=dY b:=by
     show (b.extract 8 (8+dY b)).size=_;rw[aaO];omega
    have e2:(pA b).name.size=4:=by
     show (b.extract 4 8).size=_;rw[aaO];omega
    have e3:jc (pA b::l)=(pA b).data.size+jc l:=by simp[jc]
    refine⟨by rw[e3,e1,aaw];omega,fun c hc=>?_⟩;rcases ab5.mp hc with rfl|hc
    ·refine⟨e2,?_⟩;simp only[ky,aaQ]at hk;have h4:=hk.2.2.2.1;simp only[fG,aaQ]at h4
     have e4:af (pA b).name 0=af b 4:=by
      show af (b.extract 4 8) 0=_;rw[bU]
      all_goals omega
     rw[e4];exact h4.1
    ·exact a2 c hc
   ·cases h
theorem qm {b:ByteArray}{L:List Ch}(h:aM b=some L):12*L.length+jc L=b.size/\∀c∈L,c.name.size=4/\eK (af c.name 0)=true:=xM _ _ _ h
def partsOf (b:ByteArray):Except Int kV :=
 if gy b=true then
  match aM (b.extract 8 b.size) with
  | none=>.error 11
  | some L=>match cA L with
   | none=>.error 12
   | some P=>.ok P
 else .error 10
theorem rr {b:ByteArray}(h:gy b=false):partsOf b=.error 10:=by unfold partsOf;rw[aag (by rw[h];decide)]
theorem ru {b:ByteArray}(h:gy b=true)(hc:aM (b.extract 8 b.size)=none):partsOf b=.error 11:=by unfold partsOf;rw[aai h,hc]
theorem u9 {b:ByteArray}{L:List Ch}(h:gy b=true)(hc:aM (b.extract 8 b.size)=some L)(ho:cA L=none):partsOf b=.error 12:=by unfold partsOf;rw[aai h,hc];dsimp only;rw[ho]
theorem va {b:ByteArray}{L:List Ch}{P:kV}(h:gy b=true)(hc:aM (b.extract 8 b.size)=some L)(ho:cA L=some P):partsOf b=.ok P:=by unfold partsOf;rw[aai h,hc];dsimp only;rw[ho]
abbrev zj (P:kV):Value:=.agg #[.string P.head,.bool P.aq.isSome,.string (P.aq.getD ⟨#[]⟩),.string P.data]
inductive LQ (b:ByteArray) (w:World):Ending->World->Prop
 | no {w' c}:partsOf b=.error c->Below w.heap.size w w'->LQ b w (dies c) w'
 | ok {w' P}:partsOf b=.ok P->Below w.heap.size w w'->LQ b w (.returned (zj P)) w'
theorem Eb (b:ByteArray)(w:World)(hs:b.size<=1000000000): Calls Tryz.prog 31 #[.string b] w fun e w'=>LQ b w e w':=by
 obtain⟨k0,q0,q1⟩:=bM w (.cells #[.string ⟨#[]⟩,.bool false,.string ⟨#[]⟩,.string ⟨#[]⟩] 66) (.cells #[.slice none 0 0] 88);have hch:vO ((w.alloc (.cells #[.string ⟨#[]⟩,.bool false,.string ⟨#[]⟩,.string ⟨#[]⟩] 66)).alloc (.cells #[.slice none 0 0] 88)) (w.heap.size+1) [] (.slice none 0 0):=⟨q1,⟨rfl,.inl ⟨rfl,rfl⟩⟩⟩
 have hE:=Xg b (w.heap.size+1) _ hs hch;have ZJ:Hid (_):=q0;have zR:Hid (_):=k0;have HS:Hid (b.size<=1000000000):=hs;clear hch q0 q1 k0 hs
 go_enter Tryz.func31,Tryz.ntmps31
 go_wp2_with fail;refine hE.mono ?_;intro e w1 he;cases he with
 | sig h1 hb =>
  have HB:Hid (_):=zR.out.trans (hb.mono (by omega));have HN:Hid (_):=rr h1;clear h1 hb hE;go_wp2;exact⟨rfl,.no HN.out HB.out⟩
 | bad h1 h2 hb =>
  have HB:Hid (_):=zR.out.trans (hb.mono (by omega));have HN:Hid (_):=ru h1 h2;clear h1 h2 hb hE;go_wp2;exact⟨rfl,.no HN.out HB.out⟩
 | @ok _ L v h1 h2 hc hb =>
  have hz:=qm h2;have hes:(b.extract 8 b.size).size<=b.size:=by rw[aaO];omega
  have hO:=LP L v w1 hc.val (by have:=HS.out;omega) (by have:=HS.out;omega) (fun c h=>by have:=(hz.2 c h).1;omega);have HB:Hid (Below w.heap.size w w1):=zR.out.trans (hb.mono (by omega));have R1:w1.heap[w.heap.size]?=some (.cells #[.string ⟨#[]⟩,.bool false,.string ⟨#[]⟩,.string ⟨#[]⟩] 66 (0,0)):=(hb.block _ (by omega)).trans ZJ.out
  have HN:Hid (∀o,cA L=o->partsOf b=match o with|none=>.error 12|some P=>.ok P):=fun o ho=>by
   subst ho;cases ho:cA L with
   | none=>exact u9 h1 h2 ho
   | some P=>exact va h1 h2 ho
  have HR1:Hid (_):=R1;have cb:=hc.box.cell;have lw1:=aac R1;have lx1:=aac hc.box;obtain⟨oa,oc,hv⟩:=aX hc.own;subst hv;clear h1 h2 hc hb hz hes hE R1;go_wp2_with fail;refine hO.mono ?_;intro e w2 he2;cases he2 with
  | no h3 hb2 =>
   have HB2:Hid (Below w.heap.size w w2):=HB.out.trans (hb2.mono HB.out.size);have Tq:Hid (_):=HN.out _ h3;clear h3 hb2 hO;go_wp2;exact⟨rfl,.no Tq.out HB2.out⟩
  | @ok _ P h3 hb2 =>
   have HB2:Hid (Below w.heap.size w w2):=HB.out.trans (hb2.mono HB.out.size);have Tq:Hid (_):=HN.out _ h3;have R4:=(hb2.block _ (aac HR1.out)).trans HR1.out;have rf:=fun j=>aaM _ w.heap.size j _ _ R4;have rl:=aac R4;have rc0:=(aU R4 0).trans (show _=some (Value.string ⟨#[]⟩) from rfl);have rc1:=(aU R4 1).trans (show _=some (Value.bool false) from rfl);have rc2:=(aU R4 2).trans (show _=some (Value.string ⟨#[]⟩) from rfl);have rc3:=(aU R4 3).trans (show _=some (Value.string ⟨#[]⟩) from rfl);have HR4:Hid (_):=R4;clear h3 hb2 hO cb R4;go_wp2;have hend:=(aau _ w.heap.size 3 _ _ (.string P.data) ((aau _ w.heap.size 2 _ _ (.string (P.aq.getD ⟨#[]⟩)) ((aau _ w.heap.size 1 _ _ (.bool P.aq.isSome) ((aau _ w.heap.size 0 _ _ (.string P.head) HR4.out).trans rfl)).trans rfl)).trans rfl)).trans (show _=some (Obj.cells #[.string P.head,.bool P.aq.isSome,.string (P.aq.getD ⟨#[]⟩),.string P.data] 66 (0,0)) from rfl);exact aaG (v:=zj P) (results_cell_row rfl _ _ w.heap.size 66 _ (0,0) _ rfl hend Tryz.underlying66 rfl Tryz.infoParts) rfl (.ok Tq.out ((((HB2.out.setCell (p:=⟨w.heap.size,0,none⟩) (by dsimp only;omega) _).setCell (p:=⟨w.heap.size,1,none⟩) (by dsimp only;omega) _).setCell (p:=⟨w.heap.size,2,none⟩) (by dsimp only;omega) _).setCell (p:=⟨w.heap.size,3,none⟩) (by dsimp only;omega) _))
end Go.Proofs.YtmfijackgekioabGreatDoor
