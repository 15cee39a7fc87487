import Derived.Test.YtmfijackgekioaaGreatDoorQ30
set_option maxHeartbeats 1000000
set_option maxRecDepth 100000
namespace Go.Proofs.YtmfijackgekioaaGreatDoor
open Go.RowKit Go.Maps
inductive Jt (kd dp:Int) (p:Option ByteArray) (w:World):Ending->World->Prop
 | no {w'}:fF kd dp p=false->Below w.heap.size w w'->Jt kd dp p w (.returned (.tuple #[.slice none 0 0,.bool false])) w'
 | ok {w' v}:fF kd dp p=true->w'.ownsRow w.heap.size 3 1 v (jP kd p).length (vals (jP kd p))->Below w.heap.size w w'->Jt kd dp p w (.returned (.tuple #[v,.bool true])) w'
theorem FE (p:ByteArray)(k:Nat)(h:k<p.size):(qk p).take (k+1)=(qk p).take k++[(ae p k:Int)]:=by
 rw[aaB (by rw[mN];exact h)]
 congr 1
 simp[qk]
theorem pA {kd:Int}(h:kd≠3)(p:Option ByteArray):jP kd p=[]:=by unfold jP;rw[aae h]
theorem Ju (w:World)(B:Nat):w.ownsRow B 3 1 (.slice none 0 0) ([]:List Int).length (vals []):=aba _ _ _ _
theorem Jv (W H kd:Int)(D:Nat)(ps:Bool)(pv sv:Value)(L:List Ch)(p:Option ByteArray)(v:Value)(w:World)(hv:Rx w v L)(hL:L.length<=6000000)(hs:mH L<=60000000)(hjn:dx bQ L=zW p)(hjs:cK bQ L=p.getD ⟨#[]⟩)(hch:Pm.chan kd D≠0)(hps:∀q,p=some q->q.size<=60000000)(hvl:∃ao n c,v=.slice ao n c): Calls Tryz.prog 37 #[img W H kd D ps pv sv,v] w fun e w'=>Jt kd D p w e w':=by
 obtain⟨i0,hi0,hz0,hz1,hz2⟩:=aaX Tryz.info3;have k0:=ag w (.cells #[.int .i64 W,.int .i64 H,.int .i64 kd,.int .i64 (D:Nat),.bool ps,pv,sv] 30);have m0:=ak w (.cells #[.int .i64 W,.int .i64 H,.int .i64 kd,.int .i64 (D:Nat),.bool ps,pv,sv] 30)
 have hv0:Rx (w.alloc (.cells #[.int .i64 W,.int .i64 H,.int .i64 kd,.int .i64 (D:Nat),.bool ps,pv,sv] 30)) v L:=by
  constructor;rcases hv.shape with h|⟨g,cap,h1,h2,h3,h4⟩
  ·exact .inl h
  ·exact .inr ⟨g,cap,h1,by rw[aaC];omega,h3,fun j hj=>⟨(k0.cell (p:=⟨g,j*2,none⟩) h2).trans (h4 j hj).1,(k0.cell (p:=⟨g,j*2+1,none⟩) h2).trans (h4 j hj).2⟩⟩
 have hj:=DU ⟨#[80,76,84,69]⟩ bQ (by rw[ab3]) L v _ hv0 hL hs;rw[hjn,hjs]at hj;obtain⟨Yn,vn,vc,rfl⟩:=hvl;have hd:=Pm.bp _ _ hch;have hw:=mE D hd;have htr:=Pm.gk D hd;have HK:Hid (_):=k0;clear hv hv0 hjn hjs k0;cases p with
 | none =>
  have e0:fF kd D none=!(kd==3):=rfl;by_cases h3:kd=3
  ·have e3:(kd != 3)=false:=by simp[h3]
   have HP:Hid (fF kd D none=false):=by show _=_;rw[e0,h3];rfl
   clear e0 h3
   go_enter Tryz.func37,Tryz.ntmps37
   go_wp2_with fail;refine hj.mono ?_;rintro e w' ⟨rfl,rfl⟩;go_wp2
   go_quiet (fail)
   go_wp2;exact aal (v:=.tuple #[.slice none 0 0,.bool false]) (by simp[results,Tryz.results37,go_sem]) rfl (.no HP.out (aap HK.out _))
  ·have e3:(kd != 3)=true:=by simp[h3]
   have HP:Hid (fF kd D none=true/\jP kd none=[]):=⟨by rw[e0];simp[h3],pA h3 none⟩
   clear e0 h3
   go_enter Tryz.func37,Tryz.ntmps37
   go_wp2_with fail;refine hj.mono ?_;rintro e w' ⟨rfl,rfl⟩;go_wp2
   go_quiet (fail)
   go_wp2;exact aal (v:=.tuple #[.slice none 0 0,.bool true]) (by simp[results,Tryz.results37,go_sem]) rfl (.ok HP.out.1 (by rw[HP.out.2];exact Ju _ _) (aap HK.out _))
 | some q =>
  have hq:=hps q rfl;have e1:fF kd D (some q)=if kd=0\/kd=4 then false else if kd=3 then jO q.size (Pm.two D) else jO q.size 256:=rfl
  have hd3:kd=3->D<=8:=fun h=>by
   rw[h]at hch;unfold Pm.chan at hch
   repeat' split at hch
   all_goals omega
  have ht3:kd=3->Pm.two D<=256:=fun h=>by
   have h8:=hd3 h;unfold Pm.two;rw[aa5];have h2:(2:Nat)^D<=2^8:=aa2 (by omega) h8;have e:((2:Int)^D)=((2^D:Nat):Int):=by push_cast;rfl
   rw[e];omega
  have hw2:IntKind.i64.wrap (2^D)=Pm.two D:=by
   have:=aah (Pm.two D) (by omega);unfold Pm.two at this ⊢;rw[aa5]at this ⊢;exact this
  obtain⟨sz,hsz⟩:∃sz,sz=q.size:=⟨_,rfl⟩
  rw[<-hsz]at e1;have hcb:∀m:Int,jO (sz:Nat) m=(decide ((sz:Int)%3=0)&&(decide (1<=(sz:Int)/3)&&decide ((sz:Int)/3<=m))):=fun _=>rfl;have yq:Hid (sz=q.size):=hsz;have hqs:(q.size:Int)=(sz:Int):=by omega
  obtain⟨tw,htw⟩:∃tw,tw=Pm.two D:=⟨_,rfl⟩
  rw[<-htw]at e1 ht3 hw2 htr;have GG:Hid (_):=e1;have EZ:Hid (_):=hcb;clear e1 hcb hsz htw hw hch hd3;by_cases a0:kd=0
  ·have HP:Hid (fF kd D (some q)=false):=by show _=_;rw[GG.out,aaf (.inl a0)]
   subst a0
   go_enter Tryz.func37,Tryz.ntmps37
   go_wp2_with fail;refine hj.mono ?_;rintro e w' ⟨rfl,rfl⟩;go_wp2;exact aal (v:=.tuple #[.slice none 0 0,.bool false]) (by simp[results,Tryz.results37,go_sem]) rfl (.no HP.out HK.out)
  ·by_cases a4:kd=4
   ·have HP:Hid (fF kd D (some q)=false):=by show _=_;rw[GG.out,aaf (.inr a4)]
    subst a4
    go_enter Tryz.func37,Tryz.ntmps37
    go_wp2_with fail;refine hj.mono ?_;rintro e w' ⟨rfl,rfl⟩;go_wp2;exact aal (v:=.tuple #[.slice none 0 0,.bool false]) (by simp[results,Tryz.results37,go_sem]) rfl (.no HP.out HK.out)
   ·have b0:(kd==0)=false:=aam.2 a0;have b4:(kd==4)=false:=aam.2 a4;by_cases a3:(sz:Int)%3=0
    ·have b3:((sz:Int)%3 != 0)=false:=by rw[a3];rfl
     by_cases a5:(sz:Int)/3<1
     ·have HP:Hid (fF kd D (some q)=false):=by
       show _=_;rw[GG.out,aae (by omega),EZ.out,EZ.out,aa4 (show ¬1<=(sz:Int)/3 by omega)];simp
      clear a3
      go_enter Tryz.func37,Tryz.ntmps37
      go_wp2_with fail;refine hj.mono ?_;rintro e w' ⟨rfl,rfl⟩;go_wp2;exact aal (v:=.tuple #[.slice none 0 0,.bool false]) (by simp[results,Tryz.results37,go_sem]) rfl (.no HP.out HK.out)
     ·by_cases a6:(sz:Int)/3>256
      ·have HP:Hid (fF kd D (some q)=false):=by
        show _=_;rw[GG.out,aae (by omega),EZ.out,EZ.out];split
        ·rename_i h;have:=ht3 h;rw[aa4 (show ¬(sz:Int)/3<=tw by omega)];simp
        ·rw[aa4 (show ¬(sz:Int)/3<=256 by omega)];simp
       clear a3
       go_enter Tryz.func37,Tryz.ntmps37
       go_wp2_with fail;refine hj.mono ?_;rintro e w' ⟨rfl,rfl⟩;go_wp2;exact aal (v:=.tuple #[.slice none 0 0,.bool false]) (by simp[results,Tryz.results37,go_sem]) rfl (.no HP.out HK.out)
      ·by_cases k3:kd=3
       ·have bk:(kd==3)=true:=abs.2 k3;have bk':(kd != 3)=false:=by rw[k3];rfl
        by_cases a7:(sz:Int)/3>tw
        ·have HP:Hid (fF kd D (some q)=false):=by
          show _=_;rw[GG.out,aae (by omega),aaf k3,EZ.out,aa4 (show ¬(sz:Int)/3<=tw by omega)];simp
         clear a3 k3
         go_enter Tryz.func37,Tryz.ntmps37
         go_wp2_with fail;refine hj.mono ?_;rintro e w' ⟨rfl,rfl⟩;go_wp2;exact aal (v:=.tuple #[.slice none 0 0,.bool false]) (by simp[results,Tryz.results37,go_sem]) rfl (.no HP.out HK.out)
        ·have HP:Hid (fF kd D (some q)=true/\jP kd (some q)=qk q):=by
          refine⟨?_,by unfold jP;rw[aaf k3];rfl⟩;rw[GG.out,aae (by omega),aaf k3,EZ.out,aaw a3,aaw (show 1<=(sz:Int)/3 by omega),aaw (show (sz:Int)/3<=tw by omega)];rfl
         clear a3 k3
         go_enter Tryz.func37,Tryz.ntmps37
         go_wp2_with fail;refine hj.mono ?_;rintro e w' ⟨rfl,rfl⟩;generalize hBw:w.heap.size=B at *;have HW0:Hid (∃w0,w0=w.alloc (.cells #[.int .i64 W,.int .i64 H,.int .i64 kd,.int .i64 (D:Nat),.bool ps,pv,sv] 30)):=⟨_,rfl⟩
         go_wp2
         go_loopw [9,10] (fun ov ix wr=>∃k:Nat,k<=sz/\ix=.int .i64 k/\wr.ownsRow B 3 1 ov k (vals ((qk q).take k))/\Below B w wr) (fun _ ix _=>sz-(intOf ix).toNat)
         case atStart=>exact⟨0,aaj _,rfl,aba _ _ _ _,HK.out⟩
         case round =>
          obtain⟨k,hk,rfl,hown,hbl⟩:=hrel;by_cases hlt:k<sz
          ·have hlt':(k:Int)<(sz:Int):=by omega
           have hkq:k<q.size:=by have:=yq.out;omega
           have g1:=aY q k hkq;have bl:=aZ q k;have xw:IntKind.i64.wrap (ae q k:Int)=(ae q k:Int):=aah _ (by omega);have HT:Hid (_):=FE q k hkq;obtain⟨oa,oc,rfl⟩:=aD hown;go_wp2_with (at_builtin;refine aax _ rfl _ _ 24 rfl B 3 i0 (.int .i64 0) 1 8 Tryz.underlying24 hi0 hz0 hz1 hz2 rfl (by decide) _ _ _ rfl (hown.alloc _) ⟨wr.heap.size,0,none⟩ 1 1 [_] rfl rfl (aa1 _ _ _) (by intro u hu;simp at hu;subst hu;rfl) (by unfold maxLen;omega) (by omega) (by have:=hbl.size;simp;omega) ?_;intro v' w2 hown' hgrow _)
           have R2:w2.ownsRow B 3 1 v' (k+1) (vals ((qk q).take (k+1)))/\Below B w w2:=by
            refine⟨?_,(hbl.alloc (by have:=hbl.size;omega) _).grown hgrow (by have:=hbl.size;simp;omega) (fun b hb=>(hown.lt b hb).1)⟩;rw[HT.out];simpa[vals]using hown'
           clear hown' hgrow hown hbl
           (try go_wp2)
           go_roundw
           case rel=>exact⟨k+1,by omega,by go_num,R2.1,R2.2⟩
           case measure=>simp[intOf];omega
          ·have hke:k=sz:=by omega
           have hnlt:¬(k:Int)<(sz:Int):=by omega
           obtain⟨oa,oc,rfl⟩:=aD hown
           have HF:Hid (wr.ownsRow B 3 1 (.slice oa k oc) (qk q).length (vals (qk q))/\Below B w wr):=by
            refine⟨?_,hbl⟩;have h1:=hown;rw[aav (by rw[mN,<-yq.out];omega)]at h1;rw[mN,<-yq.out,<-hke];exact h1
           clear hown hbl hke;go_wp2;refine aal (v:=.tuple #[.slice oa k oc,.bool true]) (by simp[results,Tryz.results37,go_sem]) rfl (.ok HP.out.1 (by rw[HP.out.2,hBw];exact HF.out.1) (by rw[hBw];exact HF.out.2))
       ·have bk:(kd==3)=false:=aam.2 k3;have bk':(kd != 3)=true:=by simp[k3]
        have HP:Hid (fF kd D (some q)=true/\jP kd (some q)=[]):=by
         refine⟨?_,pA k3 _⟩;rw[GG.out,aae (by omega),aae k3,EZ.out,aaw a3,aaw (show 1<=(sz:Int)/3 by omega),aaw (show (sz:Int)/3<=256 by omega)];rfl
        clear a3 k3
        go_enter Tryz.func37,Tryz.ntmps37
        go_wp2_with fail;refine hj.mono ?_;rintro e w' ⟨rfl,rfl⟩;go_wp2;exact aal (v:=.tuple #[.slice none 0 0,.bool true]) (by simp[results,Tryz.results37,go_sem]) rfl (.ok HP.out.1 (by rw[HP.out.2];exact Ju _ _) HK.out)
    ·have b3:((sz:Int)%3 != 0)=true:=by simp[a3]
     have HP:Hid (fF kd D (some q)=false):=by
      show _=_;rw[GG.out,aae (by omega),EZ.out,EZ.out,aa4 a3];simp
     clear a3
     go_enter Tryz.func37,Tryz.ntmps37
     go_wp2_with fail;refine hj.mono ?_;rintro e w' ⟨rfl,rfl⟩;go_wp2;exact aal (v:=.tuple #[.slice none 0 0,.bool false]) (by simp[results,Tryz.results37,go_sem]) rfl (.no HP.out HK.out)
section
variable {P:Program} {ops:Array Oper} {Q:Exit->Act->World->Prop} {md:Region.Mode} {S:World->Prop} {z:Nat}
theorem aq {i t:Nat}{oi:Oper}{fuel:Nat}{listed:Array Bool}{X T:Array Value}{df}{w:World}(ht:X.setIfInBounds t undef=T)(hi:ops[i]?=some oi)(hd:oi.dst=some t)(hs:Region.noSelect ops=true)(hf:Region.free md ops listed i=true)(hr:(Region.ready md ops listed).contains i=true)(hz:waits md ops z i=true)(hQ:∀c a w,Q (.panic c) (a.put oi.dst undef) w->Q (.panic c) a w)(hw:Region.wanted oi (yielded ops X)=false)(hS:S w)(h:dU P md ops Q S z fuel (listed.setIfInBounds i true) ⟨T,df⟩ w):dU P md ops Q S z (fuel+1) listed ⟨X,df⟩ w:=by
 refine rM hi hs hQ (rN hz) fuel listed ⟨X,df⟩ w (Region.free_spec hi hf) (by simpa using hr) (.inr ⟨hw,rfl⟩) hS ?_;rw[hd];show dU P md ops Q S z fuel _ ⟨X.setIfInBounds t undef,df⟩ w;rw[ht];exact h
end
theorem heap_drew {w:World}{k:Nat}{o:Obj}(h:w.heap[k]?=some o):w.drew.heap[k]?=some o:=h
inductive iT (b:ByteArray) (w:World):Ending->World->Prop
 | no {w' h}:nN b=false->Below w.heap.size w w'->iT b w (.returned (.tuple #[.agg (gE h),.bool false])) w'
 | ok {w'}:nN b=true->Below w.heap.size w w'->iT b w (.returned (.tuple #[.agg (gE (uP b)),.bool true])) w'
theorem Ua (b:ByteArray)(w:World):Calls Tryz.prog 36 #[.string b] w fun e w'=>iT b w e w':=by
 by_cases h13:b.size=13
 ·have h8:(8:Int)<(b.size:Int):=by omega
  have h9:(9:Int)<(b.size:Int):=by omega
  have h12:(12:Int)<(b.size:Int):=by omega
  have g8:=aY b 8 (by omega);have g9:=aY b 9 (by omega);have g12:=aY b 12 (by omega);have hf0:=fun v=>tZ b 0 v (by omega) (by omega);have AY:=fun v=>tZ b 4 v (by omega) (by omega);have Yo:(b.size:Int)=13:=by omega
  have l8:=aZ b 8;have l9:=aZ b 9;have l12:=aZ b 12;have x8:IntKind.i64.wrap (ae b 8:Int)=ae b 8:=aah _ (by omega);have x9:IntKind.i64.wrap (ae b 9:Int)=ae b 9:=aah _ (by omega)
  have x12:((ae b 12:Int)==1)=decide (ae b 12=1):=by
   rw[aa3,abs,aaH];omega
  go_enter Tryz.func36,Tryz.ntmps36
  go_wp2_with fail;apply PW (F:=Mt w (gE (uP b)))
  ·intro rest;have hTr:True:=trivial;have q0:=ak w (.cells bm 30);have k0:=(ag w (.cells bm 30)).drew;refine aE (fun _=>True) 99 ?_;have Z0:(w.alloc (.cells bm 30)).drew.heap[w.heap.size]?=some (.cells bm 30 (0,0)):=q0;have hsz:(w.alloc (.cells bm 30)).drew.heap.size=w.heap.size+1:=by simp
   generalize (w.alloc (.cells bm 30)).drew=v0 at *;refine am [0,2,4,5,6,7,8,9,10,11,12] ?_
   iterate 11 refine au hTr ?_
   refine aj ?_;refine eQ (i:=1) (j:=14) (by kernel_rfl) rfl rfl (fun K hK=>?_) (fun K hK=>?_)
   ·go_simp;refine (hf0 _).mono ?_;rintro e v1 ⟨rfl,m1,hv1⟩;have k1:Below w.heap.size w v1:=by rw[hv1];exact aap k0 m1
    have Z1:v1.heap[w.heap.size]?=some (.cells bm 30 (0,0)):=by rw[hv1];exact Z0
    have s1:v1.heap.size=w.heap.size+1:=by rw[hv1];exact hsz
    refine hK _ _ (fun _=>trivial) ?_;clear hK K hv1;refine eQ (i:=3) (j:=14) (by kernel_rfl) rfl rfl (fun K hK=>?_) (fun K hK=>?_)
    ·go_simp;refine (AY _).mono ?_;rintro e v2 ⟨rfl,m2,hv2⟩;have k2:Below w.heap.size w v2:=by rw[hv2];exact aap k1 m2
     have Z2:v2.heap[w.heap.size]?=some (.cells bm 30 (0,0)):=by rw[hv2];exact Z1
     have s2:v2.heap.size=w.heap.size+1:=by rw[hv2];exact s1
     refine hK _ _ (fun _=>trivial) ?_;clear hK K hv2;refine am [13] ?_
     iterate 1 refine au hTr ?_
     refine aj ?_;refine ai 14 fun K hK=>?_;go_simp;have ka:=ag v2 (.cells bm 30);have X3:=ak v2 (.cells bm 30);rw[s2]at X3;have k3:=k2.trans (ka.mono (by omega));have Z3:=(ka.block _ (by omega)).trans Z2;generalize v2.alloc (.cells bm 30)=v3 at *;refine hK _ _ (fun _=>trivial) ?_;clear hK K ka;obtain⟨y0,y1,y2,y3,y4,y5,y6,yf,yl⟩:=gF X3;refine ai 15 fun K hK=>?_;go_simp;refine hK _ _ (fun _=>trivial) ?_;clear hK K;refine ar ?_;have hat:Mt w (gE (uP b)) (ri v3 (w.heap.size+1) (.int .i64 (aM b 0)) (.int .i64 (aM b 4)) (.int .i64 (ae b 9)) (.int .i64 (ae b 8)) (.bool (decide (ae b 12=1))) (.slice none 0 0) (.slice none 0 0)):=⟨iQ k3 _ (by omega) ..,(mJ _ _ _ _ _ _ _ _ _ _ (by omega)).trans Z3,mI X3 ..⟩
     unfold ri at hat;revert hat;generalize World.setCell _ _ _=u;intro hat;have r:=rest u hat;clear hat;exact r
    ·go_simp;have ka:=ag v1 (.cells bm 30);have X2:=ak v1 (.cells bm 30);rw[s1]at X2;have k2:=k1.trans (ka.mono (by omega));have Z2:=(ka.block _ (by omega)).trans Z1;generalize v1.alloc (.cells bm 30)=v2 at *;refine hK _ _ (fun _=>trivial) ?_;clear hK K ka;refine ai 3 fun K hK=>?_;go_simp;refine (AY _).mono ?_;rintro e v3 ⟨rfl,m3,hv3⟩;have k3:Below w.heap.size w v3:=by rw[hv3];exact aap k2 m3
     have Z3:v3.heap[w.heap.size]?=some (.cells bm 30 (0,0)):=by rw[hv3];exact Z2
     have X3:v3.heap[w.heap.size+1]?=some (.cells bm 30 (0,0)):=by rw[hv3];exact X2
     refine hK _ _ (fun _=>trivial) ?_;clear hK K hv3;refine am [13] ?_
     iterate 1 refine au hTr ?_
     refine aj ?_;obtain⟨y0,y1,y2,y3,y4,y5,y6,yf,yl⟩:=gF X3;refine ai 15 fun K hK=>?_;go_simp;refine hK _ _ (fun _=>trivial) ?_;clear hK K;refine ar ?_;have hat:Mt w (gE (uP b)) (ri v3 (w.heap.size+1) (.int .i64 (aM b 0)) (.int .i64 (aM b 4)) (.int .i64 (ae b 9)) (.int .i64 (ae b 8)) (.bool (decide (ae b 12=1))) (.slice none 0 0) (.slice none 0 0)):=⟨iQ k3 _ (by omega) ..,(mJ _ _ _ _ _ _ _ _ _ _ (by omega)).trans Z3,mI X3 ..⟩
     unfold ri at hat;revert hat;generalize World.setCell _ _ _=u;intro hat;have r:=rest u hat;clear hat;exact r
   ·go_simp;have ka:=ag v0 (.cells bm 30);have X1:=ak v0 (.cells bm 30);rw[hsz]at X1;have k1:=k0.trans (ka.mono (by omega));have Z1:=(ka.block _ (by omega)).trans Z0;generalize v0.alloc (.cells bm 30)=v1 at *;refine hK _ _ (fun _=>trivial) ?_;clear hK K ka;refine ai 1 fun K hK=>?_;go_simp;refine (hf0 _).mono ?_;rintro e v2 ⟨rfl,m2,hv2⟩;have k2:Below w.heap.size w v2:=by rw[hv2];exact aap k1 m2
    have Z2:v2.heap[w.heap.size]?=some (.cells bm 30 (0,0)):=by rw[hv2];exact Z1
    have X2:v2.heap[w.heap.size+1]?=some (.cells bm 30 (0,0)):=by rw[hv2];exact X1
    refine hK _ _ (fun _=>trivial) ?_;clear hK K hv2;refine ai 3 fun K hK=>?_;go_simp;refine (AY _).mono ?_;rintro e v3 ⟨rfl,m3,hv3⟩;have k3:Below w.heap.size w v3:=by rw[hv3];exact aap k2 m3
    have Z3:v3.heap[w.heap.size]?=some (.cells bm 30 (0,0)):=by rw[hv3];exact Z2
    have X3:v3.heap[w.heap.size+1]?=some (.cells bm 30 (0,0)):=by rw[hv3];exact X2
    refine hK _ _ (fun _=>trivial) ?_;clear hK K hv3;refine am [13] ?_
    iterate 1 refine au hTr ?_
    refine aj ?_;obtain⟨y0,y1,y2,y3,y4,y5,y6,yf,yl⟩:=gF X3;refine ai 15 fun K hK=>?_;go_simp;refine hK _ _ (fun _=>trivial) ?_;clear hK K;refine ar ?_;have hat:Mt w (gE (uP b)) (ri v3 (w.heap.size+1) (.int .i64 (aM b 0)) (.int .i64 (aM b 4)) (.int .i64 (ae b 9)) (.int .i64 (ae b 8)) (.bool (decide (ae b 12=1))) (.slice none 0 0) (.slice none 0 0)):=⟨iQ k3 _ (by omega) ..,(mJ _ _ _ _ _ _ _ _ _ _ (by omega)).trans Z3,mI X3 ..⟩
    unfold ri at hat;revert hat;generalize World.setCell _ _ _=u;intro hat;have r:=rest u hat;clear hat;exact r
  ·intro u hu;have hm:u.heap[w.heap.size+1]?=some (.cells #[.int .i64 (aM b 0),.int .i64 (aM b 4),.int .i64 (ae b 9),.int .i64 (ae b 8),.bool (decide (ae b 12=1)),.slice none 0 0,.slice none 0 0] 30 (0,0)):=hu.m;have hz:u.heap[w.heap.size]?=some (.cells #[.int .i64 0,.int .i64 0,.int .i64 0,.int .i64 0,.bool false,.slice none 0 0,.slice none 0 0] 30 (0,0)):=hu.z;obtain⟨y0,y1,y2,y3,y4,y5,y6,yf,yl⟩:=gF hm;obtain⟨z0,z1,z2,z3,z4,z5,z6,zf,zl⟩:=gF hz;have h10:(10:Int)<(b.size:Int):=by omega
   have h11:(11:Int)<(b.size:Int):=by omega
   have g10:=aY b 10 (by omega);have g11:=aY b 11 (by omega);have hC:=fun v=>qf (ae b 9) (ae b 8) v;have hcr:=Pm.cm (ae b 9) (ae b 8);have x10:((ae b 10:Int)==0)=decide (ae b 10=0):=by rw[aa3,abs,aaH];omega
   have fH:((ae b 11:Int)==0)=decide (ae b 11=0):=by rw[aa3,abs,aaH];omega
   have x13:decide ((ae b 12:Int)<=1)=decide (ae b 12<=1):=by rw[aa3,aaH,aaH];omega
   have AL:Hid (nN b=((Pm.et (aM b 0)&&Pm.et (aM b 4))&&((decide (ae b 10=0)&&(decide (ae b 11=0)&&decide (ae b 12<=1)))&&!(Pm.chan (ae b 9) (ae b 8)==0)))):=by show _=_;unfold nN;rw[aaw h13,acu]
   have HM:Hid (_):=hm;have HZ:Hid (_):=hz;have RA:Hid (_):=hu.be;have HHD:Hid (uP b=⟨aM b 0,aM b 4,ae b 9,ae b 8,decide (ae b 12=1)⟩):=rfl;have s1e:=fun v=>xK (aM b 0) v;have s2e:=fun v=>xK (aM b 4) v;have hend:=mI hz (.int .i64 (aM b 0)) (.int .i64 (aM b 4)) (.int .i64 (ae b 9)) (.int .i64 (ae b 8)) (.bool (decide (ae b 12=1))) (.slice none 0 0) (.slice none 0 0);have hbe:=(iQ hu.be w.heap.size (aad _) (.int .i64 (aM b 0)) (.int .i64 (aM b 4)) (.int .i64 (ae b 9)) (.int .i64 (ae b 8)) (.bool (decide (ae b 12=1))) (.slice none 0 0) (.slice none 0 0)).drew;have yr:=(mJ u w.heap.size (.int .i64 (aM b 0)) (.int .i64 (aM b 4)) (.int .i64 (ae b 9)) (.int .i64 (ae b 8)) (.bool (decide (ae b 12=1))) (.slice none 0 0) (.slice none 0 0) (w.heap.size+1) (by omega)).trans hm;have hend:=heap_drew hend;have yr:=heap_drew yr;have HE:Hid (_/\_/\_):=⟨hend,hbe,yr⟩
   clear hf0 AY hm hz hu hend hbe yr;generalize hs1:Pm.et (aM b 0)=s1 at *;generalize hs2:Pm.et (aM b 4)=s2 at *;generalize decide (ae b 10=0)=c10 at *;generalize decide (ae b 11=0)=c11 at *;generalize decide (ae b 12<=1)=c12 at *;generalize Pm.chan (ae b 9) (ae b 8)=CH at *;generalize aM b 0=A at *;generalize aM b 4=B at *;clear hs1 hs2;go_wp2_with fail;refine (s1e _).mono ?_;rintro e w' ⟨rfl,rfl⟩;go_wp2_with fail;refine (s2e _).mono ?_;rintro e w' ⟨rfl,rfl⟩;clear s1e s2e;rcases s1 with _|_
   ·have vY:Hid (nN b=false):=by show _=_;rw[AL.out];simp
    go_wp2;have hS:w'.drew.cell? ⟨w.heap.size+1,0,none⟩=some (.int .i64 A)/\w'.drew.cell? ⟨w.heap.size+1,1,none⟩=some (.int .i64 B)/\w'.drew.cell? ⟨w.heap.size+1,2,none⟩=some (.int .i64 (ae b 9:Nat))/\w'.drew.cell? ⟨w.heap.size+1,3,none⟩=some (.int .i64 (ae b 8:Nat))/\w'.drew.cell? ⟨w.heap.size+1,4,none⟩=some (.bool (decide (ae b 12=1)))/\w'.drew.cell? ⟨w.heap.size+1,5,none⟩=some (.slice none 0 0)/\w'.drew.cell? ⟨w.heap.size+1,6,none⟩=some (.slice none 0 0):=⟨y0,y1,y2,y3,y4,y5,y6⟩
    refine aE (fun u=>u.cell? ⟨w.heap.size+1,0,none⟩=some (.int .i64 A)/\u.cell? ⟨w.heap.size+1,1,none⟩=some (.int .i64 B)/\u.cell? ⟨w.heap.size+1,2,none⟩=some (.int .i64 (ae b 9:Nat))/\u.cell? ⟨w.heap.size+1,3,none⟩=some (.int .i64 (ae b 8:Nat))/\u.cell? ⟨w.heap.size+1,4,none⟩=some (.bool (decide (ae b 12=1)))/\u.cell? ⟨w.heap.size+1,5,none⟩=some (.slice none 0 0)/\u.cell? ⟨w.heap.size+1,6,none⟩=some (.slice none 0 0)) 99 ?_;refine am [0,1,2] ?_
    iterate 3 refine au hS ?_
    refine aj ?_;refine aq (i := 3) (t := 34) (T := ?_) ?ht rfl rfl (by kernel_rfl) (by kernel_rfl) (by kernel_rfl) (by kernel_rfl) (fun _ _ _ h => h) (by kernel_rfl) hS ?_
    case ht => go_simp; try with_reducible rfl
    refine am [4,5] ?_
    iterate 2 refine au hS ?_
    refine aj ?_;refine aq (i := 6) (t := 37) (T := ?_) ?ht rfl rfl (by kernel_rfl) (by kernel_rfl) (by kernel_rfl) (by kernel_rfl) (fun _ _ _ h => h) (by kernel_rfl) hS ?_
    case ht => go_simp; try with_reducible rfl
    refine aq (i := 7) (t := 38) (T := ?_) ?ht rfl rfl (by kernel_rfl) (by kernel_rfl) (by kernel_rfl) (by kernel_rfl) (fun _ _ _ h => h) (by kernel_rfl) hS ?_
    case ht => go_simp; try with_reducible rfl
    refine aq (i := 8) (t := 39) (T := ?_) ?ht rfl rfl (by kernel_rfl) (by kernel_rfl) (by kernel_rfl) (by kernel_rfl) (fun _ _ _ h => h) (by kernel_rfl) hS ?_
    case ht => go_simp; try with_reducible rfl
    refine aq (i := 9) (t := 40) (T := ?_) ?ht rfl rfl (by kernel_rfl) (by kernel_rfl) (by kernel_rfl) (by kernel_rfl) (fun _ _ _ h => h) (by kernel_rfl) hS ?_
    case ht => go_simp; try with_reducible rfl
    refine aq (i := 10) (t := 41) (T := ?_) ?ht rfl rfl (by kernel_rfl) (by kernel_rfl) (by kernel_rfl) (by kernel_rfl) (fun _ _ _ h => h) (by kernel_rfl) hS ?_
    case ht => go_simp; try with_reducible rfl
    refine aq (i := 11) (t := 42) (T := ?_) ?ht rfl rfl (by kernel_rfl) (by kernel_rfl) (by kernel_rfl) (by kernel_rfl) (fun _ _ _ h => h) (by kernel_rfl) hS ?_
    case ht => go_simp; try with_reducible rfl
    refine am [12,13] ?_
    iterate 2 refine au hS ?_
    refine aj ?_;refine aq (i := 14) (t := 45) (T := ?_) ?ht rfl rfl (by kernel_rfl) (by kernel_rfl) (by kernel_rfl) (by kernel_rfl) (fun _ _ _ h => h) (by kernel_rfl) hS ?_
    case ht => go_simp; try with_reducible rfl
    refine aq (i := 15) (t := 46) (T := ?_) ?ht rfl rfl (by kernel_rfl) (by kernel_rfl) (by kernel_rfl) (by kernel_rfl) (fun _ _ _ h => h) (by kernel_rfl) hS ?_
    case ht => go_simp; try with_reducible rfl
    refine aq (i := 16) (t := 47) (T := ?_) ?ht rfl rfl (by kernel_rfl) (by kernel_rfl) (by kernel_rfl) (by kernel_rfl) (fun _ _ _ h => h) (by kernel_rfl) hS ?_
    case ht => go_simp; try with_reducible rfl
    refine am [17,18] ?_
    iterate 2 refine au hS ?_
    refine aj ?_;refine aq (i := 19) (t := 50) (T := ?_) ?ht rfl rfl (by kernel_rfl) (by kernel_rfl) (by kernel_rfl) (by kernel_rfl) (fun _ _ _ h => h) (by kernel_rfl) hS ?_
    case ht => go_simp; try with_reducible rfl
    refine aq (i := 20) (t := 51) (T := ?_) ?ht rfl rfl (by kernel_rfl) (by kernel_rfl) (by kernel_rfl) (by kernel_rfl) (fun _ _ _ h => h) (by kernel_rfl) hS ?_
    case ht => go_simp; try with_reducible rfl
    refine aq (i := 21) (t := 52) (T := ?_) ?ht rfl rfl (by kernel_rfl) (by kernel_rfl) (by kernel_rfl) (by kernel_rfl) (fun _ _ _ h => h) (by kernel_rfl) hS ?_
    case ht => go_simp; try with_reducible rfl
    refine am [22,23] ?_
    iterate 2 refine au hS ?_
    refine aj ?_;refine aq (i := 24) (t := 55) (T := ?_) ?ht rfl rfl (by kernel_rfl) (by kernel_rfl) (by kernel_rfl) (by kernel_rfl) (fun _ _ _ h => h) (by kernel_rfl) hS ?_
    case ht => go_simp; try with_reducible rfl
    refine aq (i := 25) (t := 56) (T := ?_) ?ht rfl rfl (by kernel_rfl) (by kernel_rfl) (by kernel_rfl) (by kernel_rfl) (fun _ _ _ h => h) (by kernel_rfl) hS ?_
    case ht => go_simp; try with_reducible rfl
    refine aq (i := 26) (t := 57) (T := ?_) ?ht rfl rfl (by kernel_rfl) (by kernel_rfl) (by kernel_rfl) (by kernel_rfl) (fun _ _ _ h => h) (by kernel_rfl) hS ?_
    case ht => go_simp; try with_reducible rfl
    refine am [27] ?_
    iterate 1 refine au hS ?_
    refine aj ?_;obtain⟨hend,hbe,yr⟩:=HE.out;obtain⟨t0,t1,t2,t3,t4,t5,t6⟩:=aI yr;obtain⟨r0,r1,r2,r3,r4,r5,r6⟩:=aI hend;have vZ:=And.intro t0 (And.intro t1 (And.intro t2 (And.intro t3 (And.intro t4 (And.intro t5 t6)))));refine ai 28 fun K hK=>?_;go_simp;refine hK _ _ (fun _=>vZ) ?_;clear hK K;refine am [29] ?_
    iterate 1 refine au vZ ?_
    refine aj ?_;refine ar ?_;go_wp2;exact aal (v:=.tuple #[.agg #[.int .i64 A,.int .i64 B,.int .i64 (ae b 9:Nat),.int .i64 (ae b 8:Nat),.bool (decide (ae b 12=1)),.slice none 0 0,.slice none 0 0],.bool false]) (by simp[results,Tryz.results36,go_sem,r0,r1,r2,r3,r4,r5,r6]) rfl (iT.no (h:=⟨A,B,ae b 9,ae b 8,decide (ae b 12=1)⟩) vY.out hbe)
   ·rcases s2 with _|_
    ·have vY:Hid (nN b=false):=by show _=_;rw[AL.out];simp
     go_wp2;have hS:w'.drew.cell? ⟨w.heap.size+1,0,none⟩=some (.int .i64 A)/\w'.drew.cell? ⟨w.heap.size+1,1,none⟩=some (.int .i64 B)/\w'.drew.cell? ⟨w.heap.size+1,2,none⟩=some (.int .i64 (ae b 9:Nat))/\w'.drew.cell? ⟨w.heap.size+1,3,none⟩=some (.int .i64 (ae b 8:Nat))/\w'.drew.cell? ⟨w.heap.size+1,4,none⟩=some (.bool (decide (ae b 12=1)))/\w'.drew.cell? ⟨w.heap.size+1,5,none⟩=some (.slice none 0 0)/\w'.drew.cell? ⟨w.heap.size+1,6,none⟩=some (.slice none 0 0):=⟨y0,y1,y2,y3,y4,y5,y6⟩
     refine aE (fun u=>u.cell? ⟨w.heap.size+1,0,none⟩=some (.int .i64 A)/\u.cell? ⟨w.heap.size+1,1,none⟩=some (.int .i64 B)/\u.cell? ⟨w.heap.size+1,2,none⟩=some (.int .i64 (ae b 9:Nat))/\u.cell? ⟨w.heap.size+1,3,none⟩=some (.int .i64 (ae b 8:Nat))/\u.cell? ⟨w.heap.size+1,4,none⟩=some (.bool (decide (ae b 12=1)))/\u.cell? ⟨w.heap.size+1,5,none⟩=some (.slice none 0 0)/\u.cell? ⟨w.heap.size+1,6,none⟩=some (.slice none 0 0)) 99 ?_;refine am [0,1,2,3,4,5] ?_
     iterate 6 refine au hS ?_
     refine aj ?_;refine aq (i := 6) (t := 37) (T := ?_) ?ht rfl rfl (by kernel_rfl) (by kernel_rfl) (by kernel_rfl) (by kernel_rfl) (fun _ _ _ h => h) (by kernel_rfl) hS ?_
     case ht => go_simp; try with_reducible rfl
     refine aq (i := 7) (t := 38) (T := ?_) ?ht rfl rfl (by kernel_rfl) (by kernel_rfl) (by kernel_rfl) (by kernel_rfl) (fun _ _ _ h => h) (by kernel_rfl) hS ?_
     case ht => go_simp; try with_reducible rfl
     refine aq (i := 8) (t := 39) (T := ?_) ?ht rfl rfl (by kernel_rfl) (by kernel_rfl) (by kernel_rfl) (by kernel_rfl) (fun _ _ _ h => h) (by kernel_rfl) hS ?_
     case ht => go_simp; try with_reducible rfl
     refine aq (i := 9) (t := 40) (T := ?_) ?ht rfl rfl (by kernel_rfl) (by kernel_rfl) (by kernel_rfl) (by kernel_rfl) (fun _ _ _ h => h) (by kernel_rfl) hS ?_
     case ht => go_simp; try with_reducible rfl
     refine aq (i := 10) (t := 41) (T := ?_) ?ht rfl rfl (by kernel_rfl) (by kernel_rfl) (by kernel_rfl) (by kernel_rfl) (fun _ _ _ h => h) (by kernel_rfl) hS ?_
     case ht => go_simp; try with_reducible rfl
     refine aq (i := 11) (t := 42) (T := ?_) ?ht rfl rfl (by kernel_rfl) (by kernel_rfl) (by kernel_rfl) (by kernel_rfl) (fun _ _ _ h => h) (by kernel_rfl) hS ?_
     case ht => go_simp; try with_reducible rfl
     refine am [12,13] ?_
     iterate 2 refine au hS ?_
     refine aj ?_;refine aq (i := 14) (t := 45) (T := ?_) ?ht rfl rfl (by kernel_rfl) (by kernel_rfl) (by kernel_rfl) (by kernel_rfl) (fun _ _ _ h => h) (by kernel_rfl) hS ?_
     case ht => go_simp; try with_reducible rfl
     refine aq (i := 15) (t := 46) (T := ?_) ?ht rfl rfl (by kernel_rfl) (by kernel_rfl) (by kernel_rfl) (by kernel_rfl) (fun _ _ _ h => h) (by kernel_rfl) hS ?_
     case ht => go_simp; try with_reducible rfl
     refine aq (i := 16) (t := 47) (T := ?_) ?ht rfl rfl (by kernel_rfl) (by kernel_rfl) (by kernel_rfl) (by kernel_rfl) (fun _ _ _ h => h) (by kernel_rfl) hS ?_
     case ht => go_simp; try with_reducible rfl
     refine am [17,18] ?_
     iterate 2 refine au hS ?_
     refine aj ?_;refine aq (i := 19) (t := 50) (T := ?_) ?ht rfl rfl (by kernel_rfl) (by kernel_rfl) (by kernel_rfl) (by kernel_rfl) (fun _ _ _ h => h) (by kernel_rfl) hS ?_
     case ht => go_simp; try with_reducible rfl
     refine aq (i := 20) (t := 51) (T := ?_) ?ht rfl rfl (by kernel_rfl) (by kernel_rfl) (by kernel_rfl) (by kernel_rfl) (fun _ _ _ h => h) (by kernel_rfl) hS ?_
     case ht => go_simp; try with_reducible rfl
     refine aq (i := 21) (t := 52) (T := ?_) ?ht rfl rfl (by kernel_rfl) (by kernel_rfl) (by kernel_rfl) (by kernel_rfl) (fun _ _ _ h => h) (by kernel_rfl) hS ?_
     case ht => go_simp; try with_reducible rfl
     refine am [22,23] ?_
     iterate 2 refine au hS ?_
     refine aj ?_;refine aq (i := 24) (t := 55) (T := ?_) ?ht rfl rfl (by kernel_rfl) (by kernel_rfl) (by kernel_rfl) (by kernel_rfl) (fun _ _ _ h => h) (by kernel_rfl) hS ?_
     case ht => go_simp; try with_reducible rfl
     refine aq (i := 25) (t := 56) (T := ?_) ?ht rfl rfl (by kernel_rfl) (by kernel_rfl) (by kernel_rfl) (by kernel_rfl) (fun _ _ _ h => h) (by kernel_rfl) hS ?_
     case ht => go_simp; try with_reducible rfl
     refine aq (i := 26) (t := 57) (T := ?_) ?ht rfl rfl (by kernel_rfl) (by kernel_rfl) (by kernel_rfl) (by kernel_rfl) (fun _ _ _ h => h) (by kernel_rfl) hS ?_
     case ht => go_simp; try with_reducible rfl
     refine am [27] ?_
     iterate 1 refine au hS ?_
     refine aj ?_;obtain⟨hend,hbe,yr⟩:=HE.out;obtain⟨t0,t1,t2,t3,t4,t5,t6⟩:=aI yr;obtain⟨r0,r1,r2,r3,r4,r5,r6⟩:=aI hend;have vZ:=And.intro t0 (And.intro t1 (And.intro t2 (And.intro t3 (And.intro t4 (And.intro t5 t6)))));refine ai 28 fun K hK=>?_;go_simp;refine hK _ _ (fun _=>vZ) ?_;clear hK K;refine am [29] ?_
     iterate 1 refine au vZ ?_
     refine aj ?_;refine ar ?_;go_wp2;exact aal (v:=.tuple #[.agg #[.int .i64 A,.int .i64 B,.int .i64 (ae b 9:Nat),.int .i64 (ae b 8:Nat),.bool (decide (ae b 12=1)),.slice none 0 0,.slice none 0 0],.bool false]) (by simp[results,Tryz.results36,go_sem,r0,r1,r2,r3,r4,r5,r6]) rfl (iT.no (h:=⟨A,B,ae b 9,ae b 8,decide (ae b 12=1)⟩) vY.out hbe)
    ·by_cases hch:CH=0
     ·have vY:Hid (nN b=false):=by show _=_;rw[AL.out,hch];simp
      have hgt:¬(0<CH):=by omega
      have hdc:decide (0<CH)=false:=aa4 hgt;have hle0:CH<=0:=by omega
      clear hch;go_wp2;have hS:w'.drew.cell? ⟨w.heap.size+1,0,none⟩=some (.int .i64 A)/\w'.drew.cell? ⟨w.heap.size+1,1,none⟩=some (.int .i64 B)/\w'.drew.cell? ⟨w.heap.size+1,2,none⟩=some (.int .i64 (ae b 9:Nat))/\w'.drew.cell? ⟨w.heap.size+1,3,none⟩=some (.int .i64 (ae b 8:Nat))/\w'.drew.cell? ⟨w.heap.size+1,4,none⟩=some (.bool (decide (ae b 12=1)))/\w'.drew.cell? ⟨w.heap.size+1,5,none⟩=some (.slice none 0 0)/\w'.drew.cell? ⟨w.heap.size+1,6,none⟩=some (.slice none 0 0):=⟨y0,y1,y2,y3,y4,y5,y6⟩
      refine aE (fun u=>u.cell? ⟨w.heap.size+1,0,none⟩=some (.int .i64 A)/\u.cell? ⟨w.heap.size+1,1,none⟩=some (.int .i64 B)/\u.cell? ⟨w.heap.size+1,2,none⟩=some (.int .i64 (ae b 9:Nat))/\u.cell? ⟨w.heap.size+1,3,none⟩=some (.int .i64 (ae b 8:Nat))/\u.cell? ⟨w.heap.size+1,4,none⟩=some (.bool (decide (ae b 12=1)))/\u.cell? ⟨w.heap.size+1,5,none⟩=some (.slice none 0 0)/\u.cell? ⟨w.heap.size+1,6,none⟩=some (.slice none 0 0)) 99 ?_;refine am [0,1,2,3,4,5,6,7,8,9] ?_
      iterate 10 refine au hS ?_
      refine aj ?_;refine ai 10 fun K hK=>?_;go_simp;refine (hC _).mono ?_;rintro e v1 ⟨rfl,hv1⟩;subst v1;refine hK _ _ (fun _=>hS) ?_;clear hK K;refine am [11,12,13] ?_
      iterate 3 refine au hS ?_
      refine aj ?_;refine aq (i := 14) (t := 45) (T := ?_) ?ht rfl rfl (by kernel_rfl) (by kernel_rfl) (by kernel_rfl) (by kernel_rfl) (fun _ _ _ h => h) (by kernel_rfl) hS ?_
      case ht => go_simp; try with_reducible rfl
      refine aq (i := 15) (t := 46) (T := ?_) ?ht rfl rfl (by kernel_rfl) (by kernel_rfl) (by kernel_rfl) (by kernel_rfl) (fun _ _ _ h => h) (by kernel_rfl) hS ?_
      case ht => go_simp; try with_reducible rfl
      refine aq (i := 16) (t := 47) (T := ?_) ?ht rfl rfl (by kernel_rfl) (by kernel_rfl) (by kernel_rfl) (by kernel_rfl) (fun _ _ _ h => h) (by kernel_rfl) hS ?_
      case ht => go_simp; try with_reducible rfl
      refine am [17,18] ?_
      iterate 2 refine au hS ?_
      refine aj ?_;refine aq (i := 19) (t := 50) (T := ?_) ?ht rfl rfl (by kernel_rfl) (by kernel_rfl) (by kernel_rfl) (by kernel_rfl) (fun _ _ _ h => h) (by kernel_rfl) hS ?_
      case ht => go_simp; try with_reducible rfl
      refine aq (i := 20) (t := 51) (T := ?_) ?ht rfl rfl (by kernel_rfl) (by kernel_rfl) (by kernel_rfl) (by kernel_rfl) (fun _ _ _ h => h) (by kernel_rfl) hS ?_
      case ht => go_simp; try with_reducible rfl
      refine aq (i := 21) (t := 52) (T := ?_) ?ht rfl rfl (by kernel_rfl) (by kernel_rfl) (by kernel_rfl) (by kernel_rfl) (fun _ _ _ h => h) (by kernel_rfl) hS ?_
      case ht => go_simp; try with_reducible rfl
      refine am [22,23] ?_
      iterate 2 refine au hS ?_
      refine aj ?_;refine aq (i := 24) (t := 55) (T := ?_) ?ht rfl rfl (by kernel_rfl) (by kernel_rfl) (by kernel_rfl) (by kernel_rfl) (fun _ _ _ h => h) (by kernel_rfl) hS ?_
      case ht => go_simp; try with_reducible rfl
      refine aq (i := 25) (t := 56) (T := ?_) ?ht rfl rfl (by kernel_rfl) (by kernel_rfl) (by kernel_rfl) (by kernel_rfl) (fun _ _ _ h => h) (by kernel_rfl) hS ?_
      case ht => go_simp; try with_reducible rfl
      refine aq (i := 26) (t := 57) (T := ?_) ?ht rfl rfl (by kernel_rfl) (by kernel_rfl) (by kernel_rfl) (by kernel_rfl) (fun _ _ _ h => h) (by kernel_rfl) hS ?_
      case ht => go_simp; try with_reducible rfl
      refine am [27] ?_
      iterate 1 refine au hS ?_
      refine aj ?_;obtain⟨hend,hbe,yr⟩:=HE.out;obtain⟨t0,t1,t2,t3,t4,t5,t6⟩:=aI yr;obtain⟨r0,r1,r2,r3,r4,r5,r6⟩:=aI hend;have vZ:=And.intro t0 (And.intro t1 (And.intro t2 (And.intro t3 (And.intro t4 (And.intro t5 t6)))));refine ai 28 fun K hK=>?_;go_simp;refine hK _ _ (fun _=>vZ) ?_;clear hK K;refine am [29] ?_
      iterate 1 refine au vZ ?_
      refine aj ?_;refine ar ?_;go_wp2;exact aal (v:=.tuple #[.agg #[.int .i64 A,.int .i64 B,.int .i64 (ae b 9:Nat),.int .i64 (ae b 8:Nat),.bool (decide (ae b 12=1)),.slice none 0 0,.slice none 0 0],.bool false]) (by simp[results,Tryz.results36,go_sem,r0,r1,r2,r3,r4,r5,r6]) rfl (iT.no (h:=⟨A,B,ae b 9,ae b 8,decide (ae b 12=1)⟩) vY.out hbe)
     ·have hgt:0<CH:=by omega
      have hdc:decide (0<CH)=true:=aaw hgt;have Yp:¬CH=0:=hch;rcases c10 with _|_
      ·have vY:Hid (nN b=false):=by show _=_;rw[AL.out];simp
       go_wp2;have hS:w'.drew.cell? ⟨w.heap.size+1,0,none⟩=some (.int .i64 A)/\w'.drew.cell? ⟨w.heap.size+1,1,none⟩=some (.int .i64 B)/\w'.drew.cell? ⟨w.heap.size+1,2,none⟩=some (.int .i64 (ae b 9:Nat))/\w'.drew.cell? ⟨w.heap.size+1,3,none⟩=some (.int .i64 (ae b 8:Nat))/\w'.drew.cell? ⟨w.heap.size+1,4,none⟩=some (.bool (decide (ae b 12=1)))/\w'.drew.cell? ⟨w.heap.size+1,5,none⟩=some (.slice none 0 0)/\w'.drew.cell? ⟨w.heap.size+1,6,none⟩=some (.slice none 0 0):=⟨y0,y1,y2,y3,y4,y5,y6⟩
       refine aE (fun u=>u.cell? ⟨w.heap.size+1,0,none⟩=some (.int .i64 A)/\u.cell? ⟨w.heap.size+1,1,none⟩=some (.int .i64 B)/\u.cell? ⟨w.heap.size+1,2,none⟩=some (.int .i64 (ae b 9:Nat))/\u.cell? ⟨w.heap.size+1,3,none⟩=some (.int .i64 (ae b 8:Nat))/\u.cell? ⟨w.heap.size+1,4,none⟩=some (.bool (decide (ae b 12=1)))/\u.cell? ⟨w.heap.size+1,5,none⟩=some (.slice none 0 0)/\u.cell? ⟨w.heap.size+1,6,none⟩=some (.slice none 0 0)) 99 ?_;refine am [0,1,2,3,4,5,6,7,8,9] ?_
       iterate 10 refine au hS ?_
       refine aj ?_;refine ai 10 fun K hK=>?_;go_simp;refine (hC _).mono ?_;rintro e v1 ⟨rfl,hv1⟩;subst v1;refine hK _ _ (fun _=>hS) ?_;clear hK K;refine am [11,12,13,14,15,16,17,18] ?_
       iterate 8 refine au hS ?_
       refine aj ?_;refine aq (i := 19) (t := 50) (T := ?_) ?ht rfl rfl (by kernel_rfl) (by kernel_rfl) (by kernel_rfl) (by kernel_rfl) (fun _ _ _ h => h) (by kernel_rfl) hS ?_
       case ht => go_simp; try with_reducible rfl
       refine aq (i := 20) (t := 51) (T := ?_) ?ht rfl rfl (by kernel_rfl) (by kernel_rfl) (by kernel_rfl) (by kernel_rfl) (fun _ _ _ h => h) (by kernel_rfl) hS ?_
       case ht => go_simp; try with_reducible rfl
       refine aq (i := 21) (t := 52) (T := ?_) ?ht rfl rfl (by kernel_rfl) (by kernel_rfl) (by kernel_rfl) (by kernel_rfl) (fun _ _ _ h => h) (by kernel_rfl) hS ?_
       case ht => go_simp; try with_reducible rfl
       refine am [22,23] ?_
       iterate 2 refine au hS ?_
       refine aj ?_;refine aq (i := 24) (t := 55) (T := ?_) ?ht rfl rfl (by kernel_rfl) (by kernel_rfl) (by kernel_rfl) (by kernel_rfl) (fun _ _ _ h => h) (by kernel_rfl) hS ?_
       case ht => go_simp; try with_reducible rfl
       refine aq (i := 25) (t := 56) (T := ?_) ?ht rfl rfl (by kernel_rfl) (by kernel_rfl) (by kernel_rfl) (by kernel_rfl) (fun _ _ _ h => h) (by kernel_rfl) hS ?_
       case ht => go_simp; try with_reducible rfl
       refine aq (i := 26) (t := 57) (T := ?_) ?ht rfl rfl (by kernel_rfl) (by kernel_rfl) (by kernel_rfl) (by kernel_rfl) (fun _ _ _ h => h) (by kernel_rfl) hS ?_
       case ht => go_simp; try with_reducible rfl
       refine am [27] ?_
       iterate 1 refine au hS ?_
       refine aj ?_;obtain⟨hend,hbe,yr⟩:=HE.out;obtain⟨t0,t1,t2,t3,t4,t5,t6⟩:=aI yr;obtain⟨r0,r1,r2,r3,r4,r5,r6⟩:=aI hend;have vZ:=And.intro t0 (And.intro t1 (And.intro t2 (And.intro t3 (And.intro t4 (And.intro t5 t6)))));refine ai 28 fun K hK=>?_;go_simp;refine hK _ _ (fun _=>vZ) ?_;clear hK K;refine am [29] ?_
       iterate 1 refine au vZ ?_
       refine aj ?_;refine ar ?_;go_wp2;exact aal (v:=.tuple #[.agg #[.int .i64 A,.int .i64 B,.int .i64 (ae b 9:Nat),.int .i64 (ae b 8:Nat),.bool (decide (ae b 12=1)),.slice none 0 0,.slice none 0 0],.bool false]) (by simp[results,Tryz.results36,go_sem,r0,r1,r2,r3,r4,r5,r6]) rfl (iT.no (h:=⟨A,B,ae b 9,ae b 8,decide (ae b 12=1)⟩) vY.out hbe)
      ·rcases c11 with _|_
       ·have vY:Hid (nN b=false):=by show _=_;rw[AL.out];simp
        go_wp2;have hS:w'.drew.cell? ⟨w.heap.size+1,0,none⟩=some (.int .i64 A)/\w'.drew.cell? ⟨w.heap.size+1,1,none⟩=some (.int .i64 B)/\w'.drew.cell? ⟨w.heap.size+1,2,none⟩=some (.int .i64 (ae b 9:Nat))/\w'.drew.cell? ⟨w.heap.size+1,3,none⟩=some (.int .i64 (ae b 8:Nat))/\w'.drew.cell? ⟨w.heap.size+1,4,none⟩=some (.bool (decide (ae b 12=1)))/\w'.drew.cell? ⟨w.heap.size+1,5,none⟩=some (.slice none 0 0)/\w'.drew.cell? ⟨w.heap.size+1,6,none⟩=some (.slice none 0 0):=⟨y0,y1,y2,y3,y4,y5,y6⟩
        refine aE (fun u=>u.cell? ⟨w.heap.size+1,0,none⟩=some (.int .i64 A)/\u.cell? ⟨w.heap.size+1,1,none⟩=some (.int .i64 B)/\u.cell? ⟨w.heap.size+1,2,none⟩=some (.int .i64 (ae b 9:Nat))/\u.cell? ⟨w.heap.size+1,3,none⟩=some (.int .i64 (ae b 8:Nat))/\u.cell? ⟨w.heap.size+1,4,none⟩=some (.bool (decide (ae b 12=1)))/\u.cell? ⟨w.heap.size+1,5,none⟩=some (.slice none 0 0)/\u.cell? ⟨w.heap.size+1,6,none⟩=some (.slice none 0 0)) 99 ?_;refine am [0,1,2,3,4,5,6,7,8,9] ?_
        iterate 10 refine au hS ?_
        refine aj ?_;refine ai 10 fun K hK=>?_;go_simp;refine (hC _).mono ?_;rintro e v1 ⟨rfl,hv1⟩;subst v1;refine hK _ _ (fun _=>hS) ?_;clear hK K;refine am [11,12,13,14,15,16,17,18,19,20,21,22,23] ?_
        iterate 13 refine au hS ?_
        refine aj ?_;refine aq (i := 24) (t := 55) (T := ?_) ?ht rfl rfl (by kernel_rfl) (by kernel_rfl) (by kernel_rfl) (by kernel_rfl) (fun _ _ _ h => h) (by kernel_rfl) hS ?_
        case ht => go_simp; try with_reducible rfl
        refine aq (i := 25) (t := 56) (T := ?_) ?ht rfl rfl (by kernel_rfl) (by kernel_rfl) (by kernel_rfl) (by kernel_rfl) (fun _ _ _ h => h) (by kernel_rfl) hS ?_
        case ht => go_simp; try with_reducible rfl
        refine aq (i := 26) (t := 57) (T := ?_) ?ht rfl rfl (by kernel_rfl) (by kernel_rfl) (by kernel_rfl) (by kernel_rfl) (fun _ _ _ h => h) (by kernel_rfl) hS ?_
        case ht => go_simp; try with_reducible rfl
        refine am [27] ?_
        iterate 1 refine au hS ?_
        refine aj ?_;obtain⟨hend,hbe,yr⟩:=HE.out;obtain⟨t0,t1,t2,t3,t4,t5,t6⟩:=aI yr;obtain⟨r0,r1,r2,r3,r4,r5,r6⟩:=aI hend;have vZ:=And.intro t0 (And.intro t1 (And.intro t2 (And.intro t3 (And.intro t4 (And.intro t5 t6)))));refine ai 28 fun K hK=>?_;go_simp;refine hK _ _ (fun _=>vZ) ?_;clear hK K;refine am [29] ?_
        iterate 1 refine au vZ ?_
        refine aj ?_;refine ar ?_;go_wp2;exact aal (v:=.tuple #[.agg #[.int .i64 A,.int .i64 B,.int .i64 (ae b 9:Nat),.int .i64 (ae b 8:Nat),.bool (decide (ae b 12=1)),.slice none 0 0,.slice none 0 0],.bool false]) (by simp[results,Tryz.results36,go_sem,r0,r1,r2,r3,r4,r5,r6]) rfl (iT.no (h:=⟨A,B,ae b 9,ae b 8,decide (ae b 12=1)⟩) vY.out hbe)
       ·rcases c12 with _|_
        ·have vY:Hid (nN b=false):=by show _=_;rw[AL.out];simp
         go_wp2;have hS:w'.drew.cell? ⟨w.heap.size+1,0,none⟩=some (.int .i64 A)/\w'.drew.cell? ⟨w.heap.size+1,1,none⟩=some (.int .i64 B)/\w'.drew.cell? ⟨w.heap.size+1,2,none⟩=some (.int .i64 (ae b 9:Nat))/\w'.drew.cell? ⟨w.heap.size+1,3,none⟩=some (.int .i64 (ae b 8:Nat))/\w'.drew.cell? ⟨w.heap.size+1,4,none⟩=some (.bool (decide (ae b 12=1)))/\w'.drew.cell? ⟨w.heap.size+1,5,none⟩=some (.slice none 0 0)/\w'.drew.cell? ⟨w.heap.size+1,6,none⟩=some (.slice none 0 0):=⟨y0,y1,y2,y3,y4,y5,y6⟩
         refine aE (fun u=>u.cell? ⟨w.heap.size+1,0,none⟩=some (.int .i64 A)/\u.cell? ⟨w.heap.size+1,1,none⟩=some (.int .i64 B)/\u.cell? ⟨w.heap.size+1,2,none⟩=some (.int .i64 (ae b 9:Nat))/\u.cell? ⟨w.heap.size+1,3,none⟩=some (.int .i64 (ae b 8:Nat))/\u.cell? ⟨w.heap.size+1,4,none⟩=some (.bool (decide (ae b 12=1)))/\u.cell? ⟨w.heap.size+1,5,none⟩=some (.slice none 0 0)/\u.cell? ⟨w.heap.size+1,6,none⟩=some (.slice none 0 0)) 99 ?_;refine am [0,1,2,3,4,5,6,7,8,9] ?_
         iterate 10 refine au hS ?_
         refine aj ?_;refine ai 10 fun K hK=>?_;go_simp;refine (hC _).mono ?_;rintro e v1 ⟨rfl,hv1⟩;subst v1;refine hK _ _ (fun _=>hS) ?_;clear hK K;refine am [11,12,13,14,15,16,17,18,19,20,21,22,23,24,25,26,27] ?_
         iterate 17 refine au hS ?_
         refine aj ?_;obtain⟨hend,hbe,yr⟩:=HE.out;obtain⟨t0,t1,t2,t3,t4,t5,t6⟩:=aI yr;obtain⟨r0,r1,r2,r3,r4,r5,r6⟩:=aI hend;have vZ:=And.intro t0 (And.intro t1 (And.intro t2 (And.intro t3 (And.intro t4 (And.intro t5 t6)))));refine ai 28 fun K hK=>?_;go_simp;refine hK _ _ (fun _=>vZ) ?_;clear hK K;refine am [29] ?_
         iterate 1 refine au vZ ?_
         refine aj ?_;refine ar ?_;go_wp2;exact aal (v:=.tuple #[.agg #[.int .i64 A,.int .i64 B,.int .i64 (ae b 9:Nat),.int .i64 (ae b 8:Nat),.bool (decide (ae b 12=1)),.slice none 0 0,.slice none 0 0],.bool false]) (by simp[results,Tryz.results36,go_sem,r0,r1,r2,r3,r4,r5,r6]) rfl (iT.no (h:=⟨A,B,ae b 9,ae b 8,decide (ae b 12=1)⟩) vY.out hbe)
        ·go_wp2;have hS:w'.drew.cell? ⟨w.heap.size+1,0,none⟩=some (.int .i64 A)/\w'.drew.cell? ⟨w.heap.size+1,1,none⟩=some (.int .i64 B)/\w'.drew.cell? ⟨w.heap.size+1,2,none⟩=some (.int .i64 (ae b 9:Nat))/\w'.drew.cell? ⟨w.heap.size+1,3,none⟩=some (.int .i64 (ae b 8:Nat))/\w'.drew.cell? ⟨w.heap.size+1,4,none⟩=some (.bool (decide (ae b 12=1)))/\w'.drew.cell? ⟨w.heap.size+1,5,none⟩=some (.slice none 0 0)/\w'.drew.cell? ⟨w.heap.size+1,6,none⟩=some (.slice none 0 0):=⟨y0,y1,y2,y3,y4,y5,y6⟩
         refine aE (fun u=>u.cell? ⟨w.heap.size+1,0,none⟩=some (.int .i64 A)/\u.cell? ⟨w.heap.size+1,1,none⟩=some (.int .i64 B)/\u.cell? ⟨w.heap.size+1,2,none⟩=some (.int .i64 (ae b 9:Nat))/\u.cell? ⟨w.heap.size+1,3,none⟩=some (.int .i64 (ae b 8:Nat))/\u.cell? ⟨w.heap.size+1,4,none⟩=some (.bool (decide (ae b 12=1)))/\u.cell? ⟨w.heap.size+1,5,none⟩=some (.slice none 0 0)/\u.cell? ⟨w.heap.size+1,6,none⟩=some (.slice none 0 0)) 99 ?_;refine am [0,1,2,3,4,5,6,7,8,9] ?_
         iterate 10 refine au hS ?_
         refine aj ?_;refine ai 10 fun K hK=>?_;go_simp;refine (hC _).mono ?_;rintro e v1 ⟨rfl,hv1⟩;subst v1;refine hK _ _ (fun _=>hS) ?_;clear hK K;refine am [11,12,13,14,15,16,17,18,19,20,21,22,23,24,25,26,27] ?_
         iterate 17 refine au hS ?_
         refine aj ?_;obtain⟨hend,hbe,yr⟩:=HE.out;obtain⟨t0,t1,t2,t3,t4,t5,t6⟩:=aI yr;obtain⟨r0,r1,r2,r3,r4,r5,r6⟩:=aI hend;have vZ:=And.intro t0 (And.intro t1 (And.intro t2 (And.intro t3 (And.intro t4 (And.intro t5 t6)))));refine ai 28 fun K hK=>?_;go_simp;refine hK _ _ (fun _=>vZ) ?_;clear hK K;refine am [29] ?_
         iterate 1 refine au vZ ?_
         refine aj ?_;refine ar ?_;go_wp2;exact aal (v:=.tuple #[.agg #[.int .i64 A,.int .i64 B,.int .i64 (ae b 9:Nat),.int .i64 (ae b 8:Nat),.bool (decide (ae b 12=1)),.slice none 0 0,.slice none 0 0],.bool true]) (by simp[results,Tryz.results36,go_sem,r0,r1,r2,r3,r4,r5,r6]) rfl (by have h:=iT.ok (b:=b) (w:=w) (by rw[AL.out];simp[Yp]) hbe;rw[HHD.out]at h;exact h)
 ·have HN:Hid (nN b=false):=by show _=_;unfold nN;rw[aa4 h13,abX]
  have Yo:((b.size:Int) != 13)=true:=by rw[bne_iff_ne];omega
  have q0:=ak w (.cells bm 30);obtain⟨z0,z1,z2,z3,z4,z5,z6,zf,zl⟩:=gF q0;have k0:=ag w (.cells bm 30);have HK:Hid (_):=k0;clear k0 q0
  go_enter Tryz.func36,Tryz.ntmps36
  go_wp2;exact aal (v:=.tuple #[.agg bm,.bool false]) (by simp[results,Tryz.results36,go_sem,z0,z1,z2,z3,z4,z5,z6]) rfl (iT.no (h:=⟨0,0,0,0,false⟩) HN.out HK.out)
end Go.Proofs.YtmfijackgekioaaGreatDoor
