import Derived.Test.YtmfijackgekioaaGreatDoorQ28
import Derived.Test.YtmfijackgekioaaGreatDoorLs
set_option maxHeartbeats 1000000
set_option maxRecDepth 100000
namespace Go.Proofs.YtmfijackgekioaaGreatDoor
open Go.RowKit Go.Maps
structure ChV (w:World) (v:Value) (L:List Ch):Prop where
 shape:(L=[]/\v=.slice none 0 0)\/∃g cap,v=.slice (some ⟨g,0,none⟩) L.length cap/\g<w.heap.size/\L.length<=cap/\∀j,j<L.length->w.cell? ⟨g,j*2,none⟩=some (.string (L.getD j ⟨⟨#[]⟩,⟨#[]⟩⟩).name)/\w.cell? ⟨g,j*2+1,none⟩=some (.string (L.getD j ⟨⟨#[]⟩,⟨#[]⟩⟩).data)
theorem V1 (L:List Ch)(j:Nat)(h:j<L.length):(fE L)[j*2]?=some (.string (L.getD j ⟨⟨#[]⟩,⟨#[]⟩⟩).name)/\(fE L)[j*2+1]?=some (.string (L.getD j ⟨⟨#[]⟩,⟨#[]⟩⟩).data):=by
 induction L generalizing j with
 | nil=>simp at h
 | cons x r ih =>
  have e:fE (x::r)=[.string x.name,.string x.data]++fE r:=by simp[fE]
  cases j with
  | zero=>rw[e];exact⟨rfl,rfl⟩
  | succ j =>
   have:=ih j (by simpa using h);rw[e,show (j+1)*2=2+j*2 by omega,show 2+j*2+1=2+(j*2+1) by omega];rw[List.getElem?_append_right (by simp),List.getElem?_append_right (by simp)];simpa using this
theorem uW.val {w:World}{X:Nat}{L:List Ch}{v:Value}(h:uW w X L v):ChV w v L:=by
 constructor;rcases h.own.2 with⟨hv,h0⟩|⟨g,cap,cur,hv,hg,hblk,hnc,hcm,hcs,htake⟩
 ·exact .inl ⟨List.eq_nil_of_length_eq_zero h0,hv⟩
 ·refine .inr ⟨g,cap,hv,lt_of_block hblk,hnc,fun j hj=>?_⟩;obtain⟨a,b⟩:=V1 L j hj;have hl:=uc L;rw[<-htake,List.getElem?_take,if_pos (by omega),Array.getElem?_toList]at a b;exact⟨(aR hblk _).trans a,(aR hblk _).trans b⟩
inductive Km (L:List Ch) (w:World):Ending->World->Prop
 | no {w'}:cQ L=none->Below w.heap.size w w'->Km L w (dies 12) w'
 | ok {w' P}:cQ L=some P->Below w.heap.size w w'->Km L w (.returned (.agg #[.string P.head,.bool P.aD.isSome,.string (P.aD.getD ⟨#[]⟩),.string P.data])) w'
theorem Kn {L:List Ch}(h:dU (gx L).name [] none (dO L)=none):cQ L=none:=by
 unfold cQ;split
 ·rw[h]
 ·rfl
theorem Ko {L:List Ch}{d:List ByteArray}{p:Option ByteArray}(he:ld L=true)(h:dU (gx L).name [] none (dO L)=some (d,p)):cQ L=if d.isEmpty=true then none else some ⟨(gx L).data,p,fe d⟩:=by
 unfold cQ;rw[if_pos he,h]
theorem ue {L:List Ch}{n:Nat}(hn:L.length=n+2):(dO L).length=n:=by
 unfold dO;rw[List.length_drop,List.length_take];omega
theorem Kr {L:List Ch}{n k:Nat}(hn:L.length=n+2)(hk:k<n):(dO L).drop k=L.getD (k+1) ⟨⟨#[]⟩,⟨#[]⟩⟩::(dO L).drop (k+1):=by
 have hm:=ue hn;rw[List.drop_eq_getElem_cons (by omega)]
 congr 1
 unfold dO;rw[List.getElem_drop,List.getElem_take,List.getD_eq_getElem?_getD,List.getElem?_eq_getElem (by omega)];simp only[Option.getD_some]
 congr 1
 omega
theorem mid_end {L:List Ch}{n:Nat}(hn:L.length=n+2):(dO L).drop n=[]:=List.drop_eq_nil_of_le (by rw[ue hn];exact Nat.le_refl _)
theorem NS (nm dt:ByteArray)(w:World)(h:0<nm.size): Calls Tryz.prog 172 #[.agg #[.string nm,.string dt]] w fun e w'=>e=.returned (.bool (mj (ag nm 0)))/\Below w.heap.size w w':=by
 have hb:=dH nm 0 h;have hb2:=dI nm 0;have hcap:=fun v=>Ao (ag nm 0) v;have h0:(0:Int)<(nm.size:Int):=by omega
 generalize ag nm 0=c at *;generalize mj c=cb at *
 go_enter Tryz.func172,Tryz.ntmps172
 go_wp2_with (go_at_call 201;refine (hcap _).mono ?_;rintro e w' ⟨rfl,rfl⟩)
 go_ret
 exact⟨rfl,ae _ _⟩
theorem Tryz.infoStr:(Tryz.prog.info? 9).map (fun i=>(i.zero,i.size,i.bytes))=some (some (.string ⟨#[]⟩),1,16):=by kernel_rfl
abbrev strs (d:List ByteArray):List Value:=d.map Value.string
theorem Ks {u:World}{base:Nat}{v:Value}{d:List ByteArray}(h:u.ownsRow base 9 1 v d.length (strs d))(x:ByteArray)(hd:d.length<=100000000)(hb:base<=u.heap.size)(ty:TypeId): ∃v' w',(Builtin.append_ #[209,209] ty #[v,.slice (some ⟨u.heap.size,0,none⟩) 1 1]).run Tryz.prog (u.alloc (.cells #[.string x] 9))=.ok v' w'/\w'.ownsRow base 9 1 v' (d++[x]).length (strs (d++[x]))/\(u.alloc (.cells #[.string x] 9)).grownBy w' v.ownBlock:=by
 obtain⟨i0,hi,hz0,hz1,hz2⟩:=info_parts Tryz.infoStr;have hq:=ah u (.cells #[.string x] 9)
 obtain⟨v',w',hr,ho',hg',_,_⟩:=run_append_own_at (P:=Tryz.prog) (u.alloc (.cells #[.string x] 9)) base 209 ty 9 i0 _ 1 16 Tryz.underlying209 hi hz0 hz1 hz2 rfl (by decide) v d.length (strs d) (h.alloc _) ⟨u.heap.size,0,none⟩ 1 1 [.string x] rfl (fun j y hj=>by
   rw[eU,Nat.zero_add,aR hq];simpa using hj) (fun y hy=>by
   simp only[List.mem_cons,List.not_mem_nil,or_false]at hy
   rw[hy];rfl) (by unfold maxLen;omega) (by omega) (by simp;omega)
 refine⟨v',w',hr,?_,hg'⟩;have e:strs (d++[x])=strs d++[.string x]:=by simp[strs]
 rw[e,List.length_append];exact ho'
theorem Tryz.infoParts:(Tryz.prog.info? 116).map (·.size)=some 4:=by kernel_rfl
def iN (L:List Ch):Nat:=(L.map fun c=>c.data.size).sum
theorem GA (d:List ByteArray)(x:ByteArray):(fe (d++[x])).size=(fe d).size+x.size:=by
 induction d with
 | nil=>simp only[List.nil_append,fe,ByteArray.size_append];omega
 | cons y r ih=>simp only[List.cons_append,fe,ByteArray.size_append,ih];omega
theorem Kt (a:ByteArray)(d:List ByteArray)(p:Option ByteArray)(M:List Ch)(d':List ByteArray)(p':Option ByteArray)(h:dU a d p M=some (d',p')):(fe d').size<=(fe d).size+iN M:=by
 induction M generalizing a d p with
 | nil =>
  simp only[dU,Option.some.injEq,Prod.mk.injEq]at h;rw[h.1];exact Nat.le_add_right _ _
 | cons c r ih =>
  have es:iN (c::r)=c.data.size+iN r:=by simp[iN]
  unfold dU at h;split at h
  ·have:=ih _ _ _ h;rw[GA]at this;omega
  ·split at h
   ·have:=ih _ _ _ h;omega
   ·split at h
    ·cases h
    ·have:=ih _ _ _ h;omega
theorem Ku (L:List Ch):iN (dO L)<=iN L:=by
 have h1:∀(M:List Ch) k,iN (M.take k)<=iN M:=fun M k=>by
  conv=>rhs;rw[<-List.take_append_drop k M]
  unfold iN;rw[List.map_append,List.sum_append];omega
 have h2:∀(M:List Ch) k,iN (M.drop k)<=iN M:=fun M k=>by
  conv=>rhs;rw[<-List.take_append_drop k M]
  unfold iN;rw[List.map_append,List.sum_append];omega
 exact Nat.le_trans (h2 _ _) (h1 _ _)
theorem Av (d:List ByteArray):Lib.join (d.map (·.data.toList)) []=(fe d).data.toList:=by
 induction d with
 | nil=>rfl
 | cons x r ih =>
  rw[List.map_cons,Lib.join_cons]
  have e:Lib.joinTail [] (r.map (·.data.toList))=Lib.join (r.map (·.data.toList)) []:=by
   cases r with
   | nil=>rfl
   | cons y t=>rw[List.map_cons,Lib.join_cons];simp[Lib.joinTail]
  rw[e,ih];simp[fe,ByteArray.data_append]
theorem Kv (L:List Ch)(v:Value)(w:World)(hv:ChV w v L)(hL:L.length<=100000000)(htot:iN L<=100000000000)(hnm:∀c∈L,0<c.name.size): Calls Tryz.prog 128 #[v] w fun e w'=>Km L w e w':=by
 have HT:Hid (iN L<=100000000000):=htot;clear htot;by_cases h2:L.length<2
 ·have HE:Hid (cQ L=none):=by
   show _=_;unfold cQ ld;rw[decide_eq_false (by omega),Bool.false_and,if_neg (by decide)]
  have h2i:(L.length:Int)-1<1:=by omega
  obtain⟨ao,cap,rfl⟩:∃ao cap,v=.slice ao L.length cap:=by
   rcases hv.shape with⟨rfl,rfl⟩|⟨g,cap,rfl,_⟩
   ·exact⟨_,_,rfl⟩
   ·exact⟨_,_,rfl⟩
  clear hv;generalize L.length=n at *
  go_enter Tryz.func128,Tryz.ntmps128
  go_wp2;exact⟨rfl,.no HE.out (ae _ _)⟩
 ·obtain⟨g,cap,rfl,hg,hcap,hc⟩:∃g cap,v=.slice (some ⟨g,0,none⟩) L.length cap/\g<w.heap.size/\L.length<=cap/\∀j,j<L.length->w.cell? ⟨g,j*2,none⟩=some (.string (L.getD j ⟨⟨#[]⟩,⟨#[]⟩⟩).name)/\w.cell? ⟨g,j*2+1,none⟩=some (.string (L.getD j ⟨⟨#[]⟩,⟨#[]⟩⟩).data):=by
   rcases hv.shape with⟨rfl,rfl⟩|h
   ·simp at h2
   ·exact h
  obtain⟨n,hn⟩:∃n,L.length=n+2:=⟨L.length-2,by omega⟩
  have f0:=hc 0 (by omega);have f1:=hc (n+1) (by omega);have HC:Hid (∀j,j<L.length->w.cell? ⟨g,j*2,none⟩=some (.string (L.getD j ⟨⟨#[]⟩,⟨#[]⟩⟩).name)/\w.cell? ⟨g,j*2+1,none⟩=some (.string (L.getD j ⟨⟨#[]⟩,⟨#[]⟩⟩).data)):=hc;have hl1:((n:Int)+2-1)=(n:Int)+1:=by omega
  have CD:Hid (∀j,j<L.length->0<(L.getD j ⟨⟨#[]⟩,⟨#[]⟩⟩).name.size):=fun j hj=>hnm _ (by rw[List.getD_eq_getElem?_getD,List.getElem?_eq_getElem hj];exact List.getElem_mem _);clear hv hc h2 hnm;rw[hn];generalize hF:L.getD 0 ⟨⟨#[]⟩,⟨#[]⟩⟩=F at *;generalize hLa:L.getD (n+1) ⟨⟨#[]⟩,⟨#[]⟩⟩=La at *;have hn1:¬(n:Int)+1<1:=by omega
  have V2:Hid (ld L=((F.name.toList==[73,72,68,82])&&((La.name.toList==[73,69,78,68])&&La.data.toList.isEmpty))):=by
   show _=_;unfold ld gx mY jn;rw[hn,show n+2-1=n+1 by omega,hF,hLa,decide_eq_true (by omega),Bool.true_and]
  cases hq1:(F.name.toList==[73,72,68,82])
  ·have oY:Hid (cQ L=none):=by show _=_;unfold cQ;rw[V2.out,hq1,Bool.false_and,if_neg (by decide)]
   go_enter Tryz.func128,Tryz.ntmps128
   go_wp2;exact⟨rfl,.no oY.out (ae _ _)⟩
  ·cases hq2:(La.name.toList==[73,69,78,68])
   ·have oY:Hid (cQ L=none):=by show _=_;unfold cQ;rw[V2.out,hq1,hq2,Bool.false_and,Bool.and_false,if_neg (by decide)]
    go_enter Tryz.func128,Tryz.ntmps128
    go_wp2;exact⟨rfl,.no oY.out (ae _ _)⟩
   ·cases hq3:La.data.toList.isEmpty
    ·have oY:Hid (cQ L=none):=by show _=_;unfold cQ;rw[V2.out,hq1,hq2,hq3,Bool.and_false,Bool.and_false,if_neg (by decide)]
     go_enter Tryz.func128,Tryz.ntmps128
     go_wp2;exact⟨rfl,.no oY.out (ae _ _)⟩
    ·have PJ:Hid (ld L=true):=by show _=_;rw[V2.out,hq1,hq2,hq3];rfl
     have hfc:gx L=F:=hF;have V3:Hid (dU F.name [] none (dO L)=none->cQ L=none):=fun h=>Kn (by rw[hfc];exact h);have HOS:Hid (∀d p,dU F.name [] none (dO L)=some (d,p)->cQ L=if d.isEmpty=true then none else some ⟨F.data,p,fe d⟩):=fun d p h=>by rw[Ko PJ.out (by rw[hfc];exact h),hfc]
     obtain⟨k0,q0,q1⟩:=bJ w (.cells #[.string ⟨#[]⟩,.bool false,.string ⟨#[]⟩,.string ⟨#[]⟩] 116) (.cells #[.string F.data,.bool false,.string ⟨#[]⟩,.string ⟨#[]⟩] 116);have ZL:Hid (L.getD 0 ⟨⟨#[]⟩,⟨#[]⟩⟩=F):=hF;clear hfc hF
     go_enter Tryz.func128,Tryz.ntmps128
     go_wp2;clear V2 hq1 hq2 hq3 hLa
     go_loopw [5,39] (fun dv kv wr=>∃(k:Nat) (d:List ByteArray) (p:Option ByteArray),kv=.int .i64 k/\k<=n/\Hid (dU F.name [] none (dO L)=dU (L.getD k ⟨⟨#[]⟩,⟨#[]⟩⟩).name d p ((dO L).drop k))/\Hid (wr.heap[w.heap.size+1]?=some (.cells #[.string F.data,.bool p.isSome,.string (p.getD ⟨#[]⟩),.string ⟨#[]⟩] 116 (0,0)))/\Hid (wr.heap[w.heap.size]?=some (.cells #[.string ⟨#[]⟩,.bool false,.string ⟨#[]⟩,.string ⟨#[]⟩] 116 (0,0)))/\Hid (wr.ownsRow (w.heap.size+2) 9 1 dv d.length (strs d))/\Hid (d.length<=k)/\Below w.heap.size w wr) (fun _ kv _=>n-(intOf kv).toNat)
     case atStart=>exact⟨0,[],none,rfl,Nat.zero_le _,by show _=_;rw[ZL.out];rfl,q1,q0,⟨rfl,.inl ⟨rfl,rfl⟩⟩,Nat.le_refl _,k0⟩
     case round =>
      clear q0 q1 k0;obtain⟨k,d,p,rfl,hkn,HO,HP,HR,HD,NP,hbl⟩:=hrel;by_cases hlt:k<n
      ·have Gx:(k:Int)<(n:Int):=by omega
       have HMD:Hid ((dO L).drop k=L.getD (k+1) ⟨⟨#[]⟩,⟨#[]⟩⟩::(dO L).drop (k+1)):=Kr hn hlt;have ca:=HC.out k (by omega);have cc:=HC.out (k+1) (by omega);have c1:wr.cell? ⟨g,k*2,none⟩=some (.string (L.getD k ⟨⟨#[]⟩,⟨#[]⟩⟩).name):=(hbl.cell (p:=⟨g,k*2,none⟩) hg).trans ca.1;have c2:wr.cell? ⟨g,2+k*2,none⟩=some (.string (L.getD (k+1) ⟨⟨#[]⟩,⟨#[]⟩⟩).name):=(hbl.cell (p:=⟨g,2+k*2,none⟩) hg).trans (by rw[show 2+k*2=(k+1)*2 by omega];exact cc.1);have c3:wr.cell? ⟨g,2+k*2+1,none⟩=some (.string (L.getD (k+1) ⟨⟨#[]⟩,⟨#[]⟩⟩).data):=(hbl.cell (p:=⟨g,2+k*2+1,none⟩) hg).trans (by rw[show 2+k*2+1=(k+1)*2+1 by omega];exact cc.2);have hnc:=CD.out (k+1) (by omega);clear ca cc;generalize L.getD k ⟨⟨#[]⟩,⟨#[]⟩⟩=A at *;generalize hck:L.getD (k+1) ⟨⟨#[]⟩,⟨#[]⟩⟩=c at *;have YF:Hid (L.getD (k+1) ⟨⟨#[]⟩,⟨#[]⟩⟩=c):=hck;clear hck;have hgw:g<wr.heap.size:=Nat.lt_of_lt_of_le hg hbl.size;have kU:=ae wr (.cells #[.string c.name,.string c.data] 94);have hCU:=ah wr (.cells #[.string c.name,.string c.data] 94);have Sf:=(kU.block _ (lt_of_block HP.out)).trans HP.out;have hRU:=(kU.block _ (lt_of_block HR.out)).trans HR.out;have V4:=HD.out.alloc (.cells #[.string c.name,.string c.data] 94);have BU:Below w.heap.size w (wr.alloc (.cells #[.string c.name,.string c.data] 94)):=hbl.trans (kU.mono hbl.size);have agb:w.heap.size+2<=wr.heap.size:=by have:=lt_of_block HP.out;omega
       have CY:=fun v=>NS c.name c.data v hnc
       have HCAP:Hid (jn c.name cV=true\/jn c.name dP=true->mj (ag c.name 0)=true):=fun h=>by
        rcases h with h|h<;>(have:=yd h;unfold ag;rw[this];rfl)
       have HIP:Hid (jn c.name cV=true->jn c.name dP=false):=fun h=>gN h (by decide);rw[HMD.out]at HO;have yO:Hid (dU F.name [] none (dO L)=if (jn c.name cV&&(d.isEmpty||jn A.name cV))=true then dU c.name (d++[c.data]) p ((dO L).drop (k+1)) else if (jn c.name dP&&d.isEmpty&&p.isNone)=true then dU c.name d (some c.data) ((dO L).drop (k+1)) else if mj (ag c.name 0)=true then none else dU c.name d p ((dO L).drop (k+1))):=HO.out;have hps:=Ks V4 c.data (by have:=NP.out;omega) (by simp;omega) 209;have HPS:Hid (_):=hps;have NT:Hid (d.isEmpty=decide (d.length=0)):=by show _=_;cases d<;>rfl
       obtain⟨oa,oc,hdv⟩:=aQ HD.out;subst hdv;have agc:w.heap.size+1≠wr.heap.size:=by omega
       clear HMD HO HP HR hps hbl kU CD;have eI:jn c.name cV=(c.name.toList==[73,68,65,84]):=rfl;have eA:jn A.name cV=(A.name.toList==[73,68,65,84]):=rfl;have eP:jn c.name dP=(c.name.toList==[80,76,84,69]):=rfl;rw[eI,eA,eP,NT.out]at yO;rw[eI,eP]at HCAP HIP;clear eI eA eP NT;generalize hbI:(c.name.toList==[73,68,65,84])=bI at *;generalize hbA:(A.name.toList==[73,68,65,84])=bA at *;generalize hbP:(c.name.toList==[80,76,84,69])=bP at *;generalize mj (ag c.name 0)=cB at *;generalize hm:d.length=m at *;have HM:Hid (d.length=m):=hm;clear hm;have Sg:bI=true->bP=false:=HIP.out
       have hm0:m=0\/(m≠0/\((m:Int)==0)=false):=by
        rcases Nat.eq_zero_or_pos m with h|h
        ·exact .inl h
        ·exact .inr ⟨by omega,by simp;omega⟩
       have HK:Hid (Below w.heap.size w (wr.alloc (.cells #[.string c.name,.string c.data] 94))):=BU;obtain⟨v',w2,hr,ho',hg'⟩:=HPS.out;simp only[World.size_alloc]at hr
       have HG:Hid (w2.ownsRow (w.heap.size+2) 9 1 v' (d++[c.data]).length (strs (d++[c.data]))/\w2.heap[w.heap.size+1]?=some (.cells #[.string F.data,.bool p.isSome,.string (p.getD ⟨#[]⟩),.string ⟨#[]⟩] 116 (0,0))/\w2.heap[w.heap.size]?=some (.cells #[.string ⟨#[]⟩,.bool false,.string ⟨#[]⟩,.string ⟨#[]⟩] 116 (0,0))/\Below w.heap.size w w2):=by
        have MU:∀j,j<w.heap.size+2->w2.heap[j]?=(wr.alloc (.cells #[.string c.name,.string c.data] 94)).heap[j]?:=fun j hj=>by
         have hsz:j<(wr.alloc (.cells #[.string c.name,.string c.data] 94)).heap.size:=by simp;omega
         rw[hg'.block j (by simp;omega) (fun e=>by have:=(V4.lt j e.symm).1;omega)];exact (ae (wr.alloc (.cells #[.string c.name,.string c.data] 94)) _).block j hsz
        refine⟨ho',(MU _ (by omega)).trans Sf,(MU _ (by omega)).trans hRU,?_⟩;have hgr:Kp (fun j=>(Value.slice oa m oc).ownBlock=some j) (wr.alloc (.cells #[.string c.name,.string c.data] 94)) w2:=Kp.grown (Kp.aG (ae _ _)) hg' (fun j hj=>.inl hj);exact BU.trans (hgr.below (by simp;omega) (fun j _ hj=>by have:=(V4.lt j hj).1;omega))
       obtain⟨vT,qm,hv'⟩:=aQ HG.out.1;subst hv';obtain⟨M,hM⟩:∃M,(d++[c.data]).length=M:=⟨_,rfl⟩
       have HM2:Hid ((d++[c.data]).length=M):=hM;have HOW:Hid (w2.ownsRow (w.heap.size+2) 9 1 (.slice vT M qm) (d++[c.data]).length (strs (d++[c.data]))):=by have:=HG.out.1;rw[hM]at this ⊢;exact this
       rw[hM]at hr;have YG:Hid ((wr.alloc (.cells #[.string c.name,.string c.data] 94)).ownsRow (w.heap.size+2) 9 1 (.slice oa m oc) d.length (strs d)):=by show World.ownsRow _ _ _ _ _ _ _;rw[HM.out];exact V4
       have HPU:Hid (_):=Sf;have HRU:Hid (_):=hRU;have HEX:Hid (∀(w3:World),Below (wr.alloc (.cells #[.string c.name,.string c.data] 94)).heap.size (wr.alloc (.cells #[.string c.name,.string c.data] 94)) w3->dU F.name [] none (dO L)=dU c.name d p ((dO L).drop (k+1))->∃(k':Nat) (d':List ByteArray) (p':Option ByteArray),Value.int .i64 ((k:Int)+1)=.int .i64 k'/\k'<=n/\Hid (dU F.name [] none (dO L)=dU (L.getD k' ⟨⟨#[]⟩,⟨#[]⟩⟩).name d' p' ((dO L).drop k'))/\Hid (w3.heap[w.heap.size+1]?=some (.cells #[.string F.data,.bool p'.isSome,.string (p'.getD ⟨#[]⟩),.string ⟨#[]⟩] 116 (0,0)))/\Hid (w3.heap[w.heap.size]?=some (.cells #[.string ⟨#[]⟩,.bool false,.string ⟨#[]⟩,.string ⟨#[]⟩] 116 (0,0)))/\Hid (w3.ownsRow (w.heap.size+2) 9 1 (.slice oa m oc) d'.length (strs d'))/\Hid (d'.length<=k')/\Below w.heap.size w w3):=fun w3 hb ho=>⟨k+1,d,p,rfl,hlt,by show _=_;rw[ho,YF.out],(hb.block _ (lt_of_block HPU.out)).trans HPU.out,(hb.block _ (lt_of_block HRU.out)).trans HRU.out,aI YG.out (fun j hj=>hb.block j (YG.out.lt j hj).2),by show _<=_;have:=HM.out;have:=NP.out;omega,HK.out.trans (hb.mono (by simp;omega))⟩
       clear HPS ho' hg' V4 HD BU hM;have hnx:n-(k+1)<n-k:=by omega
       cases bI
       ·rw[Bool.false_and,if_neg (by decide)]at yO;cases bP
        ·rw[Bool.false_and,Bool.false_and]at yO;have ma:Hid (dU F.name [] none (dO L)=if cB=true then none else dU c.name d p ((dO L).drop (k+1))):=by show _=_;rw[yO.out];exact if_neg (by decide)
         clear yO hr;cases cB
         ·rw[if_neg (by decide)]at ma;go_wp2_with fail;refine (CY _).mono ?_;rintro e w3 ⟨rfl,hb3⟩;go_wp2
          go_roundw
          case rel=>exact HEX.out w3 hb3 ma.out
          case measure=>exact hnx
         ·rw[if_pos rfl]at ma;have oY:Hid (cQ L=none):=V3.out ma.out;go_wp2_with fail;refine (CY _).mono ?_;rintro e w3 ⟨rfl,hb3⟩;go_wp2;exact⟨rfl,.no oY.out (HK.out.trans (hb3.mono (by simp;omega)))⟩
        ·rw[Bool.true_and]at yO;rcases hm0 with rfl|⟨hm1,hm2⟩
         ·rw[decide_eq_true rfl,Bool.true_and]at yO;cases p with
          | none =>
           have ma:Hid (dU F.name [] none (dO L)=dU c.name d (some c.data) ((dO L).drop (k+1))):=yO.out;have pc1:=(aR Sf 1).trans (show _=some (Value.bool false) from rfl);have pc2:=(aR Sf 2).trans (show _=some (Value.string ⟨#[]⟩) from rfl);have pf:=fun j=>frozen_of_row _ (w.heap.size+1) j _ _ Sf;have pl:=lt_of_block Sf;clear yO hr;go_wp2
           go_roundw
           case rel =>
            have hne1:∀j,j≠w.heap.size+1->(((wr.alloc (.cells #[.string c.name,.string c.data] 94)).setCell ⟨w.heap.size+1,2,none⟩ (.string c.data)).setCell ⟨w.heap.size+1,1,none⟩ (.bool true)).heap[j]?=(wr.alloc (.cells #[.string c.name,.string c.data] 94)).heap[j]?:=fun j hj=>(Below.heap_setCell _ ⟨w.heap.size+1,1,none⟩ _ j (fun e=>by dsimp only at e;omega)).trans (Below.heap_setCell _ ⟨w.heap.size+1,2,none⟩ _ j (fun e=>by dsimp only at e;omega));refine⟨k+1,d,some c.data,rfl,hlt,by show _=_;rw[ma.out,YF.out],?_,(hne1 _ (by omega)).trans HRU.out,aI YG.out (fun j hj=>hne1 j (fun e=>by have:=(YG.out.lt j hj).1;omega)),by show _<=_;rw[HM.out];exact Nat.zero_le _,?_⟩
            ·exact (heap_setCell_same _ (w.heap.size+1) 1 _ _ _ ((heap_setCell_same _ (w.heap.size+1) 2 _ _ _ HPU.out).trans rfl)).trans rfl
            ·exact (HK.out.setCell (p:=⟨w.heap.size+1,2,none⟩) (by dsimp only;omega) _).setCell (p:=⟨w.heap.size+1,1,none⟩) (by dsimp only;omega) _
           case measure=>exact hnx
          | some p0 =>
           have ma:Hid (dU F.name [] none (dO L)=if cB=true then none else dU c.name d (some p0) ((dO L).drop (k+1))):=by show _=_;rw[yO.out];exact if_neg (by simp)
           clear yO hr;have pc1:=(aR Sf 1).trans (show _=some (Value.bool true) from rfl);cases cB
           ·rw[if_neg (by decide)]at ma;go_wp2_with fail;refine (CY _).mono ?_;rintro e w3 ⟨rfl,hb3⟩;go_wp2
            go_roundw
            case rel=>exact HEX.out w3 hb3 ma.out
            case measure=>exact hnx
           ·rw[if_pos rfl]at ma;have oY:Hid (cQ L=none):=V3.out ma.out;go_wp2_with fail;refine (CY _).mono ?_;rintro e w3 ⟨rfl,hb3⟩;go_wp2;exact⟨rfl,.no oY.out (HK.out.trans (hb3.mono (by simp;omega)))⟩
         ·rw[decide_eq_false hm1,Bool.false_and]at yO;have ma:Hid (dU F.name [] none (dO L)=if cB=true then none else dU c.name d p ((dO L).drop (k+1))):=by show _=_;rw[yO.out];exact if_neg (by decide)
          clear yO hr;cases cB
          ·rw[if_neg (by decide)]at ma;go_wp2_with fail;refine (CY _).mono ?_;rintro e w3 ⟨rfl,hb3⟩;go_wp2
           go_roundw
           case rel=>exact HEX.out w3 hb3 ma.out
           case measure=>exact hnx
          ·rw[if_pos rfl]at ma;have oY:Hid (cQ L=none):=V3.out ma.out;go_wp2_with fail;refine (CY _).mono ?_;rintro e w3 ⟨rfl,hb3⟩;go_wp2;exact⟨rfl,.no oY.out (HK.out.trans (hb3.mono (by simp;omega)))⟩
       ·rcases hm0 with rfl|⟨hm1,hm2⟩
        ·go_wp2_with (at_builtin;refine Lib.wpList_append_run _ rfl _ _ _ _ rfl _ _ rfl rfl _ _ hr ?_)
         go_roundw
         case rel=>exact⟨k+1,d++[c.data],p,rfl,hlt,by show _=_;rw[yO.out,YF.out];rfl,HG.out.2.1,HG.out.2.2.1,HOW,by show _<=_;rw[List.length_append,HM.out];simp,HG.out.2.2.2⟩
         case measure=>exact hnx
        ·cases bA
         ·have oY:Hid (cQ L=none):=V3.out (by rw[yO.out,HCAP.out (.inl rfl),Sg rfl,decide_eq_false hm1];rfl);have hcb:cB=true:=HCAP.out (.inl rfl);have hbp:=Sg rfl;subst hcb;subst hbp;clear HCAP HIP Sg yO hr;go_wp2_with fail;refine (CY _).mono ?_;rintro e w3 ⟨rfl,hb3⟩;go_wp2;exact⟨rfl,.no oY.out (HK.out.trans (hb3.mono (by simp;omega)))⟩
         ·go_wp2_with (at_builtin;refine Lib.wpList_append_run _ rfl _ _ _ _ rfl _ _ rfl rfl _ _ hr ?_)
          go_roundw
          case rel=>exact⟨k+1,d++[c.data],p,rfl,hlt,by show _=_;rw[yO.out,YF.out,Bool.or_true];rfl,HG.out.2.1,HG.out.2.2.1,HOW,by show _<=_;have:=HM.out;have:=NP.out;rw[List.length_append];simp;omega,HG.out.2.2.2⟩
          case measure=>exact hnx
      ·have hke:k=n:=by omega
       subst hke;have HE:Hid (dU F.name [] none (dO L)=some (d,p)):=by show _=_;rw[HO.out,mid_end hn];rfl
       have hnl:¬(k:Int)<(k:Int):=by omega
       have O7:=HOS.out d p HE.out;have NU:Hid (_):=O7;obtain⟨oa,oc,hdv⟩:=aQ HD.out;subst hdv;clear O7 HO HOS V3;rcases Nat.eq_zero_or_pos d.length with hd0|hd0
       ·have oY:Hid (cQ L=none):=by show _=_;rw[NU.out,if_pos (by simpa using hd0)]
        clear NU HE;generalize d.length=m at *;subst hd0;go_wp2;exact⟨rfl,.no oY.out hbl⟩
       ·have TA:Hid (cQ L=some ⟨F.data,p,fe d⟩):=by show _=_;rw[NU.out,if_neg (by simp;intro e;rw[e]at hd0;simp at hd0)]
        obtain⟨g2,cap2,rfl,rfl,hg2,hcap2,hc2⟩:∃g2 cap2,oa=some ⟨g2,0,none⟩/\oc=cap2/\g2<wr.heap.size/\d.length<=cap2/\∀(j:Nat) x,d[j]?=some x->wr.cell? ⟨g2,0+j,none⟩=some (.string x):=by
         rcases HD.out.2 with⟨_,h0⟩|⟨g2,cap2,cur,hv2,_,hblk,hnc,_,_,htake⟩
         ·omega
         ·injection hv2 with e1 e2 e3;refine⟨g2,cap2,e1,e3,lt_of_block hblk,hnc,fun j x hj=>?_⟩;have hjl:j<d.length:=(List.getElem?_eq_some_iff.mp hj).1;have hx:(strs d)[j]?=some (.string x):=by rw[List.getElem?_map,hj];rfl
          rw[<-htake,List.getElem?_take,if_pos (by omega),Array.getElem?_toList]at hx;rw[Nat.zero_add,aR hblk];exact hx
        have hjo:=Tryz.strings_Join g2 0 oc d ⟨#[]⟩ wr hc2 hg2 (by have:=NP.out;omega) hcap2 (by
         show (Lib.join _ []).length<=_;rw[Av];have h9:=Kt _ _ _ _ _ _ HE.out;have h8:=Ku L;have h7:=HT.out;have h6:(fe []).size=0:=rfl;have h5:(fe d).data.toList.length=(fe d).size:=Array.length_toList
         omega)
        have ej:(⟨(Lib.join (d.map (·.data.toList)) ([]:List UInt8)).toArray⟩:ByteArray)=fe d:=by rw[Av]
        have V5:Calls Tryz.prog 173 #[.slice (some ⟨g2,0,none⟩) d.length oc,.string ⟨#[]⟩] wr fun e w'=>e=.returned (.string (fe d))/\Below wr.heap.size wr w':=hjo.mono (by
         rintro e w' ⟨rfl,hb⟩
         exact⟨congrArg (fun x=>Ending.returned (Value.string x)) ej,hb⟩)
        have hdn:((d.length:Int)==0)=false:=by rw[beq_eq_false_iff_ne];intro e;omega
        clear hjo ej hc2 hcap2 hg2 HD HE NU NP HT HC CD;generalize d.length=m at *;generalize fe d=D at *;go_wp2_with fail;refine V5.mono ?_;rintro e w4 ⟨rfl,hb4⟩;have P4:=(hb4.block _ (lt_of_block HP.out)).trans HP.out;have R4:=(hb4.block _ (lt_of_block HR.out)).trans HR.out;have B4:Below w.heap.size w w4:=hbl.trans (hb4.mono hbl.size);have oQ:=(aR P4 0).trans (show _=some (Value.string F.data) from rfl);have pc1:=(aR P4 1).trans (show _=some (Value.bool p.isSome) from rfl);have pc2:=(aR P4 2).trans (show _=some (Value.string (p.getD ⟨#[]⟩)) from rfl);have pc3:=(aR P4 3).trans (show _=some (Value.string ⟨#[]⟩) from rfl);have pf:=fun j=>frozen_of_row _ (w.heap.size+1) j _ _ P4;have pl:=lt_of_block P4;have rf:=fun j=>frozen_of_row _ w.heap.size j _ _ R4;have rl:=lt_of_block R4;have rc0:=(aR R4 0).trans (show _=some (Value.string ⟨#[]⟩) from rfl);have rc1:=(aR R4 1).trans (show _=some (Value.bool false) from rfl);have rc2:=(aR R4 2).trans (show _=some (Value.string ⟨#[]⟩) from rfl);have rc3:=(aR R4 3).trans (show _=some (Value.string ⟨#[]⟩) from rfl);clear V5 hb4 hbl HP HR;go_wp2;have hend:=(heap_setCell_same _ w.heap.size 3 _ _ (.string D) ((heap_setCell_same _ w.heap.size 2 _ _ (.string (p.getD ⟨#[]⟩)) ((heap_setCell_same _ w.heap.size 1 _ _ (.bool p.isSome) ((heap_setCell_same _ w.heap.size 0 _ _ (.string F.data) ((Below.heap_setCell w4 ⟨w.heap.size+1,3,none⟩ (.string D) w.heap.size (fun e=>by dsimp only at e;omega)).trans R4)).trans rfl)).trans rfl)).trans rfl)).trans (show _=some (Obj.cells #[.string F.data,.bool p.isSome,.string (p.getD ⟨#[]⟩),.string D] 116 (0,0)) from rfl);exact bodyPost_ret (v:=.agg #[.string F.data,.bool p.isSome,.string (p.getD ⟨#[]⟩),.string D]) (results_cell_row rfl _ _ w.heap.size 116 _ (0,0) _ rfl hend Tryz.underlying116 rfl Tryz.infoParts) rfl (.ok TA.out (((((B4.setCell (p:=⟨w.heap.size+1,3,none⟩) (by dsimp only;omega) _).setCell (p:=⟨w.heap.size,0,none⟩) (by dsimp only;omega) _).setCell (p:=⟨w.heap.size,1,none⟩) (by dsimp only;omega) _).setCell (p:=⟨w.heap.size,2,none⟩) (by dsimp only;omega) _).setCell (p:=⟨w.heap.size,3,none⟩) (by dsimp only;omega) _))
theorem wo:∀(f:Nat) (b:ByteArray)(L:List Ch),Ki f b=some L->12*L.length+iN L=b.size/\∀c∈L,c.name.size=4/\et (ag c.name 0)=true
 | 0,_,_,h=>by cases h
 | f+1,b,L,h=>by
  rw[Ki]at h;split at h
  ·rename_i h0;injection h with h;subst h;exact⟨by rw[h0];rfl,fun c hc=>absurd hc (List.not_mem_nil)⟩
  ·split at h
   ·rename_i hk;obtain⟨l,hl,rfl⟩:=Option.map_eq_some_iff.mp h;have hs:=jA hk;have hz:=qH hk;obtain⟨a1,a2⟩:=wo f (gw b) l hl
    have e1:(oM b).data.size=dY b:=by
     show (b.extract 8 (8+dY b)).size=_;rw[ByteArray.size_extract];omega
    have e2:(oM b).name.size=4:=by
     show (b.extract 4 8).size=_;rw[ByteArray.size_extract];omega
    have e3:iN (oM b::l)=(oM b).data.size+iN l:=by simp[iN]
    refine⟨by rw[e3,e1,List.length_cons];omega,fun c hc=>?_⟩;rcases List.mem_cons.mp hc with rfl|hc
    ·refine⟨e2,?_⟩;simp only[la,Bool.and_eq_true]at hk;have h4:=hk.2.2.2.1;simp only[fq,Bool.and_eq_true]at h4
     have e4:ag (oM b).name 0=ag b 4:=by
      show ag (b.extract 4 8) 0=_;rw[bG]
      all_goals omega
     rw[e4];exact h4.1
    ·exact a2 c hc
   ·cases h
theorem pL {b:ByteArray}{L:List Ch}(h:aO b=some L):12*L.length+iN L=b.size/\∀c∈L,c.name.size=4/\et (ag c.name 0)=true:=wo _ _ _ h
def partsOf (b:ByteArray):Except Int j0 :=
 if gM b=true then
  match aO (b.extract 8 b.size) with
  | none=>.error 11
  | some L=>match cQ L with
   | none=>.error 12
   | some P=>.ok P
 else .error 10
theorem GB {b:ByteArray}(h:gM b=false):partsOf b=.error 10:=by unfold partsOf;rw[if_neg (by rw[h];decide)]
theorem GD {b:ByteArray}(h:gM b=true)(hc:aO (b.extract 8 b.size)=none):partsOf b=.error 11:=by unfold partsOf;rw[if_pos h,hc]
theorem Kw {b:ByteArray}{L:List Ch}(h:gM b=true)(hc:aO (b.extract 8 b.size)=some L)(ho:cQ L=none):partsOf b=.error 12:=by unfold partsOf;rw[if_pos h,hc];dsimp only;rw[ho]
theorem Aw {b:ByteArray}{L:List Ch}{P:j0}(h:gM b=true)(hc:aO (b.extract 8 b.size)=some L)(ho:cQ L=some P):partsOf b=.ok P:=by unfold partsOf;rw[if_pos h,hc];dsimp only;rw[ho]
abbrev yg (P:j0):Value:=.agg #[.string P.head,.bool P.aD.isSome,.string (P.aD.getD ⟨#[]⟩),.string P.data]
inductive Kx (b:ByteArray) (w:World):Ending->World->Prop
 | no {w' c}:partsOf b=.error c->Below w.heap.size w w'->Kx b w (dies c) w'
 | ok {w' P}:partsOf b=.ok P->Below w.heap.size w w'->Kx b w (.returned (yg P)) w'
theorem CZ (b:ByteArray)(w:World)(hs:b.size<=1000000000): Calls Tryz.prog 88 #[.string b] w fun e w'=>Kx b w e w':=by
 obtain⟨k0,q0,q1⟩:=bJ w (.cells #[.string ⟨#[]⟩,.bool false,.string ⟨#[]⟩,.string ⟨#[]⟩] 116) (.cells #[.slice none 0 0] 169);have hch:uW ((w.alloc (.cells #[.string ⟨#[]⟩,.bool false,.string ⟨#[]⟩,.string ⟨#[]⟩] 116)).alloc (.cells #[.slice none 0 0] 169)) (w.heap.size+1) [] (.slice none 0 0):=⟨q1,⟨rfl,.inl ⟨rfl,rfl⟩⟩⟩
 have hE:=V0 b (w.heap.size+1) _ hs hch;have YH:Hid (_):=q0;have yN:Hid (_):=k0;have HS:Hid (b.size<=1000000000):=hs;clear hch q0 q1 k0 hs
 go_enter Tryz.func88,Tryz.ntmps88
 go_wp2_with fail;refine hE.mono ?_;intro e w1 he;cases he with
 | sig h1 hb =>
  have HB:Hid (_):=yN.out.trans (hb.mono (by omega));have HN:Hid (_):=GB h1;clear h1 hb hE;go_wp2;exact⟨rfl,.no HN.out HB.out⟩
 | bad h1 h2 hb =>
  have HB:Hid (_):=yN.out.trans (hb.mono (by omega));have HN:Hid (_):=GD h1 h2;clear h1 h2 hb hE;go_wp2;exact⟨rfl,.no HN.out HB.out⟩
 | @ok _ L v h1 h2 hc hb =>
  have hz:=pL h2;have hes:(b.extract 8 b.size).size<=b.size:=by rw[ByteArray.size_extract];omega
  have hO:=Kv L v w1 hc.val (by have:=HS.out;omega) (by have:=HS.out;omega) (fun c h=>by have:=(hz.2 c h).1;omega);have HB:Hid (Below w.heap.size w w1):=yN.out.trans (hb.mono (by omega));have R1:w1.heap[w.heap.size]?=some (.cells #[.string ⟨#[]⟩,.bool false,.string ⟨#[]⟩,.string ⟨#[]⟩] 116 (0,0)):=(hb.block _ (by omega)).trans YH.out
  have HN:Hid (∀o,cQ L=o->partsOf b=match o with|none=>.error 12|some P=>.ok P):=fun o ho=>by
   subst ho;cases ho:cQ L with
   | none=>exact Kw h1 h2 ho
   | some P=>exact Aw h1 h2 ho
  have HR1:Hid (_):=R1;have cb:=hc.box.cell;have lw1:=lt_of_block R1;have lx1:=lt_of_block hc.box;obtain⟨oa,oc,hv⟩:=aT hc.own;subst hv;clear h1 h2 hc hb hz hes hE R1;go_wp2_with fail;refine hO.mono ?_;intro e w2 he2;cases he2 with
  | no h3 hb2 =>
   have HB2:Hid (Below w.heap.size w w2):=HB.out.trans (hb2.mono HB.out.size);have RY:Hid (_):=HN.out _ h3;clear h3 hb2 hO;go_wp2;exact⟨rfl,.no RY.out HB2.out⟩
  | @ok _ P h3 hb2 =>
   have HB2:Hid (Below w.heap.size w w2):=HB.out.trans (hb2.mono HB.out.size);have RY:Hid (_):=HN.out _ h3;have R4:=(hb2.block _ (lt_of_block HR1.out)).trans HR1.out;have rf:=fun j=>frozen_of_row _ w.heap.size j _ _ R4;have rl:=lt_of_block R4;have rc0:=(aR R4 0).trans (show _=some (Value.string ⟨#[]⟩) from rfl);have rc1:=(aR R4 1).trans (show _=some (Value.bool false) from rfl);have rc2:=(aR R4 2).trans (show _=some (Value.string ⟨#[]⟩) from rfl);have rc3:=(aR R4 3).trans (show _=some (Value.string ⟨#[]⟩) from rfl);have HR4:Hid (_):=R4;clear h3 hb2 hO cb R4;go_wp2;have hend:=(heap_setCell_same _ w.heap.size 3 _ _ (.string P.data) ((heap_setCell_same _ w.heap.size 2 _ _ (.string (P.aD.getD ⟨#[]⟩)) ((heap_setCell_same _ w.heap.size 1 _ _ (.bool P.aD.isSome) ((heap_setCell_same _ w.heap.size 0 _ _ (.string P.head) HR4.out).trans rfl)).trans rfl)).trans rfl)).trans (show _=some (Obj.cells #[.string P.head,.bool P.aD.isSome,.string (P.aD.getD ⟨#[]⟩),.string P.data] 116 (0,0)) from rfl);exact bodyPost_ret (v:=yg P) (results_cell_row rfl _ _ w.heap.size 116 _ (0,0) _ rfl hend Tryz.underlying116 rfl Tryz.infoParts) rfl (.ok RY.out ((((HB2.out.setCell (p:=⟨w.heap.size,0,none⟩) (by dsimp only;omega) _).setCell (p:=⟨w.heap.size,1,none⟩) (by dsimp only;omega) _).setCell (p:=⟨w.heap.size,2,none⟩) (by dsimp only;omega) _).setCell (p:=⟨w.heap.size,3,none⟩) (by dsimp only;omega) _))
end Go.Proofs.YtmfijackgekioaaGreatDoor
