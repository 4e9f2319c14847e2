/- The program's passes. -/
import Derived.Test.YtpplnhkpcpieoaaGreatDoorZx22
import Derived.WalkMore
namespace Go.Proofs.YtpplnhkpcpieoaaGreatDoor
open Go.Proofs.Tryz
set_option linter.all false
set_option maxRecDepth 100000
set_option maxHeartbeats 16000000
section
open Go.RowKit Go.Shelf
attribute [local go_sem] Oper.semAt_some
def ef(W:World)(base b m:Nat)(bf ol:List Int)(s:FD)(R:Nat→Value)(vo:Value):Prop:=∃C LL,Fl W base b C R LL vo (s.od.map (aR m)) (s.cu:Int)∧jH m bf ol LL (s.od.map (aR m)) s
theorem ef.below{W W':World}{base b m:Nat}{bf ol:List Int}{s:FD}{R:Nat→Value}{vo:Value}(h:ef W base b m bf ol s R vo)(hb:Below W.heap.size W W'):ef W' base b m bf ol s R vo:=by
 obtain⟨C,LL,h1,h2⟩:=h;exact⟨C,LL,h1.below hb,h2⟩
theorem ef.zI{W:World}{base b m:Nat}{bf ol:List Int}{s:FD}{R:Nat→Value}{vo:Value}(h:ef W base b m bf ol s R vo){k:Nat}{C:Array Value}{t:TypeId}(hk:af W k C t)(h1:t≠185)(h2:t≠3)(h3:t≠175):¬j7 b R vo k:=by
 obtain⟨C',LL,hf,_⟩:=h;rintro (rfl|⟨j,hj,e⟩|e)
 ·have h4:W.heap[k]?=some (.cells C' 185 (0,0)):=hf.box;have h5:W.heap[k]?=some (.cells C t (0,0)):=hk;rw[h4] at h5;injection h5 with h5;injection h5 with _ h5 _;exact h1 h5.symm
 ·exact lO (hf.row j hj) hk h2 e
 ·exact lO hf.cA hk h3 e
theorem cR.Hh{w w':World}{base b m:Nat}{bf ol:List Int}{s:FD}{R R':Nat→Value}{vo aF:Value}(h:cR w w' b R vo R' aF)(hf:ef w base b m bf ol s R vo):KeepsOthers w w':=by
 obtain⟨C,LL,h1,h2⟩:=hf;have:=h.keeps h1 0;exact⟨this.size,fun k o hk ho=>this.same k o (Nat.zero_le _) hk ho⟩
theorem cR.uQ{w w':World}{base b m:Nat}{bf ol:List Int}{s:FD}{R R':Nat→Value}{vo aF:Value}(h:cR w w' b R vo R' aF)(hf:ef w base b m bf ol s R vo){k:Nat}{C:Array Value}{t:TypeId}(hk:af w k C t)(h1:t≠185)(h2:t≠3)(h3:t≠175):af w' k C t:=(h.block k hk.lt (hf.zI hk h1 h2 h3)).trans hk
theorem ef.zJ{W W':World}{base b m:Nat}{bf ol:List Int}{s:FD}{R:Nat→Value}{vo:Value}(h:ef W base b m bf ol s R vo)(hk:∀(k:Nat) (C:Array Value) (t:TypeId),W.heap[k]?=some (Obj.cells C t (0,0))→W'.heap[k]?=W.heap[k]?):ef W' base b m bf ol s R vo:=by
 obtain⟨C,LL,h1,h2⟩:=h;have OH:∀{base n sz:Nat} {e:TypeId} {v:Value} {xs:List Value},W.ownsRow base e sz v n xs→W'.ownsRow base e sz v n xs:=fun {base n sz e v xs} ho=>eF ho (fun k hv=>by
  rcases ho.2 with⟨rfl,_⟩|⟨g,cap,cur,rfl,_,hgg,_⟩
  ·cases hv
  ·obtain rfl:g=k:=(by simpa [Value.ownBlock] using hv);exact hk _ _ _ hgg)
 exact⟨C,LL,⟨(hk _ _ _ h1.box).trans h1.box,h1.at_,fun j hj=>OH (h1.row j hj),h1.apart,h1.ord,OH h1.cA,h1.cur⟩,h2⟩
theorem cR.low{w W W':World}{b:Nat}{R R':Nat→Value}{vo aF:Value}(h:cR w W b R vo R' aF)(hb:Below w.heap.size W W'):cR w W' b R vo R' aF:=
 ⟨hb.os.trans h.os,hb.tape.trans h.tape,hb.output.trans h.output,aK h.size hb.size,fun k hk hn=>(hb.block k hk).trans (h.block k hk hn),h.own⟩
theorem ef.rO{W:World}{base b m c:Nat}{bf ol:List Int}{s:FD}{R:Nat→Value}{vo x:Value}{C:Array Value}(h:ef W base b m bf ol s R vo)(hc:af W c C 4):ef (W.setCell ⟨c,0,none⟩ x) base b m bf ol s R vo:=by
 have hno:=h.zI hc (by decide) (by decide) (by decide);obtain⟨C',LL,h1,h2⟩:=h;have hk:∀k,k≠c→(W.setCell ⟨c,0,none⟩ x).heap[k]?=W.heap[k]?:=fun k hk=>Below.heap_setCell W ⟨c,0,none⟩ _ k (fun e=>hk e);exact⟨C',LL,⟨(hk b (fun e=>hno (.inl e.symm))).trans h1.box,h1.at_,fun j hj=>eF (h1.row j hj) (fun k hv=>hk k (fun e=>hno (.inr (.inl ⟨j,hj,by rw[←e];exact hv⟩)))),h1.apart,h1.ord,eF h1.cA (fun k hv=>hk k (fun e=>hno (.inr (.inr (by rw[←e];exact hv))))),h1.cur⟩,h2⟩
theorem zK(m:Nat)(bf ol:List Int)(s:FD):∀ks:List Nat,ks.foldl (bS m bf ol) (s,false)=(s,false)
 |[]=>rfl
 |k::ks=>by rw[List.foldl_cons];exact zK m bf ol s ks
theorem Hj{m:Nat}{bf ol:List Int}{s1:FD}{pm:List Nat}(h:pm<+:cE m)(hf:(pm.foldl (bS m bf ol) (s1,true)).2=false):cW m bf ol s1=((pm.foldl (bS m bf ol) (s1,true)).1,false):=by
 obtain⟨t,ht⟩:=h;unfold cW;rw[←ht,List.foldl_append];have h5:pm.foldl (bS m bf ol) (s1,true)=((pm.foldl (bS m bf ol) (s1,true)).1,false):=by rw[←hf]
 rw[h5,zK]
structure mF(w:World)(base b m n:Nat)(bf ol:List Int)(R:Nat→Value)(vo:Value)(s1:FD)(c4 X:Nat)(Ds:List Nat)(n₁:Nat)(pre:List Nat)(W:World):Prop where
 ok:(pre.foldl (bS m bf ol) (s1,true)).2=true
 wf:cF m n (pre.foldl (bS m bf ol) (s1,true)).1
 lT:s1.od.length≤(pre.foldl (bS m bf ol) (s1,true)).1.od.length
 fl:∃R' aF,ef W base b m bf ol (pre.foldl (bS m bf ol) (s1,true)).1 R' aF∧cR w W b R vo R' aF
 ptr:af W w.heap.size #[.pointer (some ⟨b,0,none⟩)] 117
 en:af W (w.heap.size+1) #[.bool true] 4
 gv:af W c4 #[.bool (decide ((pre.foldl (bS m bf ol) (s1,true)).1.od.length≠s1.od.length))] 4
 Pa:kY Ds W
 size:n₁≤W.heap.size
structure rP(w:World)(base b m n:Nat)(bf ol:List Int)(R:Nat→Value)(vo:Value)(s1:FD)(Ds:List Nat)(n₁:Nat)(pre:List Nat)(W:World):Prop where
 ok:(pre.foldl (bS m bf ol) (s1,true)).2=false
 wf:cF m n (pre.foldl (bS m bf ol) (s1,true)).1
 fl:∃R' aF,ef W base b m bf ol (pre.foldl (bS m bf ol) (s1,true)).1 R' aF∧cR w W b R vo R' aF
 en:af W (w.heap.size+1) #[.bool false] 4
 Pa:kY Ds W
 size:n₁≤W.heap.size
theorem ef.fH{A B:World}{row:Option Nat}{z base b m:Nat}{bf ol:List Int}{s:FD}{R:Nat→Value}{vo:Value}(h:ef A base b m bf ol s R vo)(hg:A.grownBy B row)(hr:∀r,row=some r→z≤r∧∃o,A.heap[r]?=some o∧o.isCells=false):ef B base b m bf ol s R vo:=by
 obtain⟨C,LL,h1,h2⟩:=h;exact⟨C,LL,h1.fH hg hr,h2⟩
theorem mF.own{w:World}{base b m n:Nat}{bf ol:List Int}{R:Nat→Value}{vo:Value}{s1:FD}{c4 X:Nat}{Ds:List Nat}{n₁:Nat}(hw:w.heap.size+2≤n₁)(hc:c4<n₁)(hD:∀D∈Ds,D<n₁):OwnFrom n₁ (mF w base b m n bf ol R vo s1 c4 X Ds n₁):=by
 intro pre A B row h hg hr;have hs:=h.size;have hk:∀k,k<n₁→B.heap[k]?=A.heap[k]?:=fun k hk=>hg.block k (by omega) (fun e=>by have:=(hr k e.symm).1;omega);obtain⟨R',aF,h1,h2⟩:=h.fl;exact⟨h.ok,h.wf,h.lT,⟨R',aF,h1.fH hg hr,h2.fH hg hr (by omega)⟩,(hk _ (by omega)).trans h.ptr,(hk _ (by omega)).trans h.en,(hk _ (by omega)).trans h.gv,h.Pa.grown hD hg (fun r e=>(hr r e).1),aK h.size hg.size⟩
theorem mF.below{w:World}{base b m n:Nat}{bf ol:List Int}{R:Nat→Value}{vo:Value}{s1:FD}{c4 X:Nat}{Ds:List Nat}{n₁:Nat}{pre:List Nat}{W W':World}(h:mF w base b m n bf ol R vo s1 c4 X Ds n₁ pre W)(hb:Below W.heap.size W W'):mF w base b m n bf ol R vo s1 c4 X Ds n₁ pre W':=by
 obtain⟨R',aF,h1,h2⟩:=h.fl;exact⟨h.ok,h.wf,h.lT,⟨R',aF,h1.below hb,h2.trans (cR.cV b R' aF hb)⟩,h.ptr.below hb h.ptr.lt,h.en.below hb h.en.lt,h.gv.below hb h.gv.lt,fun D hD=>(hb.block D (Array.getElem?_eq_some_iff.1 (h.Pa D hD)).1).trans (h.Pa D hD),aK h.size hb.size⟩
theorem mG{W W':World}(hb:Below W.heap.size W W'):KeepsOthers W W':=⟨hb.size,fun k o hk _=>(hb.block k (Array.getElem?_eq_some_iff.1 hk).1).trans hk⟩
theorem rQ(m k:Nat)(hm:m≤16):(aR m k).1<2∧(aR m k).2≤700:=by unfold aR;split<;>(constructor<;>(simp<;>omega))
theorem rP.own{w:World}{base b m n:Nat}{bf ol:List Int}{R:Nat→Value}{vo:Value}{s1:FD}{Ds:List Nat}{n₁:Nat}(hw:w.heap.size+2≤n₁)(hD:∀D∈Ds,D<n₁):OwnFrom n₁ (rP w base b m n bf ol R vo s1 Ds n₁):=by
 intro pre A B row h hg hr;have hs:=h.size;have hk:∀k,k<n₁→B.heap[k]?=A.heap[k]?:=fun k hk=>hg.block k (by omega) (fun e=>by have:=(hr k e.symm).1;omega);obtain⟨R',aF,h1,h2⟩:=h.fl;exact⟨h.ok,h.wf,⟨R',aF,h1.fH hg hr,h2.fH hg hr (by omega)⟩,(hk _ (by omega)).trans h.en,h.Pa.grown hD hg (fun r e=>(hr r e).1),aK h.size hg.size⟩
structure rR(w:World)(base b m n:Nat)(bf ol:List Int)(R:Nat→Value)(vo:Value)(T:FD×Bool)(s1:FD)(c4:Nat)(gv:Bool)(Ds:List Nat)(W:World):Prop where
 wf:cF m n s1
 fl:∃R' aF,ef W base b m bf ol s1 R' aF∧cR w W b R vo R' aF
 run:(gv=true→∃f,m+2≤f+s1.od.length∧fJ m bf ol f s1=T)∧(gv=false→(s1,true)=T)
 ptr:af W w.heap.size #[.pointer (some ⟨b,0,none⟩)] 117
 en:af W (w.heap.size+1) #[.bool true] 4
 gvb:af W c4 #[.bool gv] 4
 c4l:w.heap.size+2≤c4
 Pa:kY Ds W
 lo:∀D∈Ds,w.heap.size≤D∧D<W.heap.size
 nd:Ds.Nodup
def uR(b m:Nat)(a:Act)(w:World):Nat:=2*(m+2-nc b 8 w)+match a.tmps.getD 4 undef with
 |.pointer (some ad)=>(match w.cell? ad with|some (.bool true)=>1|_=>0)
 |_=>0
def Hl(base b m:Nat)(bf ol:List Int)(R:Nat→Value)(vo:Value)(T:FD×Bool)(w w':World)(e:Ending):Prop:=e=.returned (.bool T.2)∧∃R' aF,ef w' base b m bf ol T.1 R' aF∧cR w w' b R vo R' aF
theorem Ho(base b m n:Nat)(bf ol:List Int)(R:Nat→Value)(vo:Value)(s:FD)(w:World)(h:ef w base b m bf ol s R vo)(hwf:cF m n s)(hm:m=(n+127)/128)(hn:n≤2048)(hbl:bf.length=n)(hol:∀k,k<m+1→0≤ol.getD k 0∧ol.getD k 0<n)(hbs:base≤w.heap.size)(T:FD×Bool)(hT:fJ m bf ol (m+2) s=T):
 Calls prog 56 #[.pointer (some ⟨b,0,none⟩)] w fun e w'=>Hl base b m bf ol R vo T w w' e:=by
 have H:=aa (ai h (ai hwf (ai hm (ai hbl (ai hol hT)))));clear h hwf hm hbl hol hT;refine(callsIn_wide (n:=6)).1 ?_;refine callsIn_of_wp_marks func56 rfl trivial ?_ rfl;simp only[ntmps56,List.size_toArray,List.length_cons,List.length_nil,Nat.reduceAdd,Nat.reduceSub,Array.replicate_succ,Array.replicate_zero,List.push_toArray,List.append_toArray,List.nil_append,List.cons_append];gi_upto_region 1 with fail
 refine wpIn_wide.2 ?_;refine wp_scope_straight ?_;go_wp2;go_step3;go_wp2;refine(wpIn_wide (n:=6)).1 ?_;have HW0:=ae (∃W0,W0=((w.alloc (.cells #[.pointer (some ⟨b,0,none⟩)] 117)).alloc (.cells #[.bool true] 4)).alloc (.cells #[.bool true] 4)) (⟨_,rfl⟩);obtain⟨W0,hW0⟩:=HW0.out;rw[←hW0];have B0:Below w.heap.size w W0:=by rw[hW0];exact((ak.alloc aj _).alloc (by simp) _).alloc (by simp;omega) _
 have L0:=ae (rR w base b m n bf ol R vo T s (w.heap.size+1+1) true [] W0) (by
  refine⟨H.out.2.1,⟨R,vo,H.out.1.below B0,cR.cV b R vo B0⟩,⟨fun _=>⟨m+2,by omega,H.out.2.2.2.2.2⟩,fun h=>by cases h⟩,?_,?_,?_,aj,(fun D hD=>by cases hD),(fun D hD=>by cases hD),List.nodup_nil⟩
  ·rw[hW0];exact((af.new w _ _).alloc _).alloc _
  ·rw[hW0];have h:=(af.new (w.alloc (.cells #[.pointer (some ⟨b,0,none⟩)] 117)) #[.bool true] 4).alloc (.cells #[.bool true] 4);simpa using h
  ·rw[hW0];have h:=(af.new ((w.alloc (.cells #[.pointer (some ⟨b,0,none⟩)] 117)).alloc (.cells #[.bool true] 4)) #[.bool true] 4);simpa using h)
 clear B0 hW0 HW0;refine wpIn_loop (fun a' w'=>∃(s1:FD) (c4:Nat) (gv:Bool) (Ds:List Nat) (u5 u6 u7 u8 u9 YW YX YY YZ Y1 Xd u16 Y2 Y3 Y6:Value),a'={tmps:=#[.pointer (some ⟨b,0,none⟩),.pointer (some ⟨w.heap.size,0,none⟩),.bool false,.pointer (some ⟨w.heap.size+1,0,none⟩),.pointer (some ⟨c4,0,none⟩),u5,u6,u7,u8,u9,YW,YX,YY,YZ,Y1,Xd,u16,Y2,Y3,Y6,undef],defers:=zH Ds}∧Hid (rR w base b m n bf ol R vo T s1 c4 gv Ds w')) (uR b m) ⟨s,_,true,[],_,_,_,_,_,_,_,_,_,_,_,_,_,_,_,rfl,L0⟩ ?_;intro a' wr hinv;obtain⟨s1,c4,gv,Ds,u5,u6,u7,u8,u9,YW,YX,YY,YZ,Y1,Xd,u16,Y2,Y3,Y6,rfl,HL⟩:=hinv;have c1:=(HL.out.ptr.cell 0).trans (show _=some (.pointer (some ⟨b,0,none⟩)) from rfl);have c3:=(HL.out.en.cell 0).trans (show _=some (.bool true) from rfl);have c4c:=(HL.out.gvb.cell 0).trans (show _=some (.bool gv) from rfl);have f4:=HL.out.gvb.frozen 0;have HMU:=ae (∀(sX:FD) (cX:Nat) (gX:Bool) (DX:List Nat) (wX:World) (aX:Act),rR w base b m n bf ol R vo T sX cX gX DX wX→aX.tmps.getD 4 undef=.pointer (some ⟨cX,0,none⟩)→uR b m aX wX=2*(m+2-sX.od.length)+(if gX then 1 else 0)) (fun sX cX gX DX wX aX hL ha=>by
  obtain⟨R',aF,⟨C',LL,hF,_⟩,_⟩:=hL.fl;obtain⟨oa,oc,rfl⟩:=bO hF.cA;have e8:=(hF.box.cell 8).trans hF.ord;have e4:=(hL.gvb.cell 0).trans (show _=some (.bool gX) from rfl);unfold uR nc;rw[e8,ha];simp only[e4,List.length_map];cases gX<;>rfl)
 cases gv with
 |false=>
  have HT:=aa (HL.out.run.2 rfl);clear c1 f4;gi_wp2
  go_wp2;rw[Exit.noGoto_ret];refine uP w.heap.size Ds wr HL.out.Pa HL.out.nd (fun D hD=>(HL.out.lo D hD).1) (fun W' hb hkeep=>?_);refine⟨_,results_tmp rfl _ _ _,?_⟩;obtain⟨R',aF,hF,hK⟩:=HL.out.fl;rw[←HT.out];refine⟨rfl,R',aF,hF.zJ (fun k C t hk=>hkeep k (fun hD=>?_)),hK.low hb⟩;have:=HL.out.Pa k hD;rw[hk] at this;cases this
 |true=>
  obtain⟨f,hf1,hf2⟩:=HL.out.run.1 rfl;have PL:=aa (ai hf1 hf2);clear hf1 hf2;obtain⟨w1,hw1⟩:∃w1,w1=wr.setCell ⟨c4,0,none⟩ (.bool false):=⟨_,rfl⟩;have c1':w1.cell? ⟨w.heap.size,0,none⟩=some (.pointer (some ⟨b,0,none⟩)):=by
   have:=HL.out.c4l;rw[hw1];exact((HL.out.ptr.other _ _ (by show w.heap.size≠c4;omega)).cell 0).trans rfl
  obtain⟨Wl,NK⟩:∃Wl,Wl=w1.alloc (.cells #[.pointer (some ⟨b,0,none⟩)] 117):=⟨_,rfl⟩;have hs1:w1.heap.size=wr.heap.size:=by rw[hw1];simp
  have bW:Below w1.heap.size w1 Wl:=by rw[NK];exact ak.alloc aj _
  have hsl:Wl.heap.size=wr.heap.size+1:=by rw[NK];simp[hs1]
  have hc4:=HL.out.c4l;have hc4l:c4<wr.heap.size:=HL.out.gvb.lt;have HXB:=ae (Boxed Wl wr.heap.size 117 (.pointer (some ⟨b,0,none⟩))) (by rw[NK, ←hs1];exact Boxed.new w1 _ _);have SH:=ae (∀D∈Ds,D<Wl.heap.size) (fun D hD=>by have:=(HL.out.lo D hD).2;omega);have hwl:=HL.out.ptr.lt;have I0:=ae (mF w base b m n bf ol R vo s1 c4 wr.heap.size Ds Wl.heap.size [] Wl) (by
   obtain⟨R',aF,hF,hK⟩:=HL.out.fl;have hk1:∀k,k≠c4→w1.heap[k]?=wr.heap[k]?:=fun k hk=>(by rw[hw1];exact Below.heap_setCell wr ⟨c4,0,none⟩ _ k (fun e=>hk e));refine⟨rfl,HL.out.wf,aj,⟨R',aF,?_,?_⟩,?_,?_,?_,fun D hD=>?_,aj⟩
   ·refine ef.below ?_ bW;rw[hw1];exact hF.rO HL.out.gvb
   ·refine((hK.low (W':=w1) ?_).trans (cR.cV b R' aF bW));exact⟨by rw[hw1];rfl,by rw[hw1];rfl,by rw[hw1];rfl,by omega,fun k hk=>hk1 k (by omega)⟩
   ·exact((hk1 _ (by omega)).trans HL.out.ptr|>fun h=>af.below (b:=w.heap.size) h bW (by omega))
   ·exact((hk1 _ (by omega)).trans HL.out.en|>fun h=>af.below (b:=w.heap.size+1) h bW (by have:=HL.out.en.lt;omega))
   ·rw[show decide ((([]:List Nat).foldl (bS m bf ol) (s1,true)).1.od.length≠s1.od.length)=false by simp];refine af.below (B:=w1.heap.size) ?_ bW (by omega);rw[hw1];exact HL.out.gvb.set 0 (.bool false)
   ·have h1:=HL.out.Pa D hD;have hne:D≠c4:=fun e=>by
     rw[e] at h1;have h2:wr.heap[c4]?=some (.cells #[.bool true] 4 (0,0)):=HL.out.gvb;rw[h1] at h2;cases h2
    have h3:=(HL.out.lo D hD).2;exact(bW.block D (by omega)).trans ((hk1 D hne).trans h1))
  have HW1:=aa hw1;have Tw:=aa NK;have Vx:=ae (∃g gc,Wl.cell? ⟨b,1,none⟩=some (.slice (some ⟨g,0,none⟩) n gc)) (by
   obtain⟨R',aF,⟨C',LL,hF,hR⟩,_⟩:=I0.out.fl;have hwn:(LL 1).length=n:=(by rw[hR.ws];exact I0.out.wf.wl);obtain⟨g,gc,_,_,hx,_⟩:=hF.nh (by rw[hwn];have:=I0.out.wf.cu;omega);rw[hwn] at hx;exact⟨g,gc,hx⟩)
  obtain⟨g,gc,hx1⟩:=Vx.out;have HX:=aa hx1;clear hx1 Vx hw1 NK bW c3 c1;gi_upto_region 5 with fail
  rw[←HW1.out];clear c4c f4;gi_wp2_with (refine⟨trivial,?_⟩;gi_at_call 100;fail)
  refine⟨trivial,?_⟩;refine(zF _ b _).mono ?_;rintro e w' ⟨rfl,rfl⟩;rw[←Tw.out,hs1];gi_wp2
  have hmx:prog.follows .mixedOrders=true:=by kernel_rfl
  refine wpIn_rangeFunc_ownH rfl (by omega) (gf:=135) (lb:=#[.pointer (some ⟨wr.heap.size,0,none⟩)]) rfl trivial (enters_of func135 (by kernel_rfl) rfl)
   (zG 5 (by omega) wr.heap.size b g n gc m H.out.2.2.1 hn Wl HXB.out HX.out) (fun _ _=>trivial) (fun _ _ _ _ _ _ _ _=>trivial) ak (fun _=>rfl)
   (fun pre W=>mF w base b m n bf ol R vo s1 c4 wr.heap.size Ds Wl.heap.size (pre.map (·.1)) W)
   (fun cd pre W=>cd=.exit 0∧rP w base b m n bf ol R vo s1 Ds Wl.heap.size (pre.map (·.1)) W)
   (by intro pre A B row h hg hr;exact mF.own (by omega) (by omega) SH.out _ A B row h hg hr)
   (by rintro cd pre A B row ⟨h1,h⟩ hg hr;exact⟨h1,rP.own (by omega) SH.out _ A B row h hg hr⟩)
   I0.out
   (fun x a' Wx=>∃c,a'={tmps:=#[.pointer (some ⟨b,0,none⟩),.pointer (some ⟨w.heap.size,0,none⟩),.bool false,.pointer (some ⟨w.heap.size+1,0,none⟩),.pointer (some ⟨c4,0,none⟩),.pointer (some ⟨c,0,none⟩),.bool true,.pointer (some ⟨b,0,none⟩),.func (.func 135) #[] #[.pointer (some ⟨wr.heap.size,0,none⟩)],.agg #[.int .i64 ((aR m x.1).1:Int),.int .i64 ((aR m x.1).2:Int)],YW,YX,YY,YZ,Y1,Xd,u16,Y2,Y3,Y6,undef],defers:=[]}∧af Wx c #[.int .i64 ((aR m x.1).1:Int),.int .i64 ((aR m x.1).2:Int)] 175∧c<Wx.heap.size)
   (by
    rintro x a' _ A B row ⟨c,h1,h2,h3⟩ hg hr;refine⟨c,h1,(hg.block c h2.lt (fun e=>?_)).trans h2,Nat.lt_of_lt_of_le h3 hg.size⟩;obtain⟨_,o,ho,hc⟩:=hr c e.symm;have h2':A.heap[c]?=some (Obj.cells _ _ _):=h2;rw[h2'] at ho;cases ho
    cases hc)
   ?assign ?body ?done ?stop
  case assign=>
   rintro l pre x Wx K hI hK;have HK:=aa (ai hI hK);clear hI hK;unfold mD;generalize (aR m x.1).1=lv at HK⊢;generalize (aR m x.1).2=rk at HK⊢;gi_wp2
   have bA:Below Wx.heap.size Wx (Wx.alloc (.cells #[.int .i64 (lv:Int),.int .i64 (rk:Int)] 175)):=ak.alloc aj _;exact HK.out.2 _ _ ((KeepsOthers.alloc _ _).from _) trivial (HK.out.1.below bA) ⟨_,rfl,af.new _ _ _,by simp⟩
  case body=>
   rintro l pre x a' Wx hl hr hI ⟨c,rfl,kc,hcl⟩ QE;have hm:=H.out.2.2.1;have Oi:m≤16:=(by omega);have hk:=s4 x.2;obtain⟨k,hkx⟩:∃k,k=x.1:=⟨_,rfl⟩;rw[←hkx] at kc hk⊢;have HKX:=aa hkx;obtain⟨hp1,hp2⟩:=rQ m k Oi;have RB:=aa (ai hp1 (ai hp2 (show(aR m k).1=0→(aR m k).2=k∧k<m from fun h=>by unfold aR at h⊢;split at h<;>simp_all)));obtain⟨lv,hlv⟩:∃lv,lv=(aR m k).1:=⟨_,rfl⟩;obtain⟨rk,PZ⟩:∃rk,rk=(aR m k).2:=⟨_,rfl⟩;have Po:=aa (ai hlv PZ);rw[←hlv, ←PZ] at kc RB⊢;have hk16:k≤16:=(by omega);have hk2:k<m+1:=hk;have hn127:(n+127)/128=m:=hm.symm;clear hkx hp1 hp2 hlv PZ hk hm QE;have HI:=aa hI;have RS:=aa (jF kc);have c1:=(hI.ptr.cell 0).trans (show _=some (.pointer (some ⟨b,0,none⟩)) from rfl);obtain⟨R',aF,hFD,Pn⟩:=hI.fl;obtain⟨C,LL,hF,oX⟩:=hFD;have NU:=aa (ai hF oX);have HFD:=ae (ef Wx base b m bf ol _ R' aF) (⟨C,LL,hF,oX⟩);have Y7:=aa Pn;obtain⟨sP,hsP⟩:∃sP,sP=(pre.map (·.1)).foldl (bS m bf ol) (s1,true):=⟨_,rfl⟩;have Rk:=aa hsP;have HST:=ae (((pre++[x]).map (·.1)).foldl (bS m bf ol) (s1,true)=bS m bf ol sP k) (by rw[List.map_append,List.foldl_append, ←hsP,HKX.out];rfl);rw[←hsP] at NU HFD;have OP:=ae (cF m n sP.1∧sP.2=true∧s1.od.length≤sP.1.od.length) (by rw[hsP];exact⟨hI.wf,hI.ok,hI.lT⟩);have hlen1:(LL 1).length=n:=(by rw[NU.out.2.ws];exact OP.out.1.wl);have SI:(LL 0).length=n:=(by rw[NU.out.2.bf];exact H.out.2.2.2.1);have Y8:=ae (jE LL lv rk=fE m bf ol sP.1 k) (by rw[Po.out.1,Po.out.2];exact NU.out.2.He (by omega) hk2);have HLen:=aa (ai hlen1 SI);have hn0:2<n:=(by have:=OP.out.1.cu;omega);clear hF oX Pn hsP hI hlen1 SI;gi_wp2_with (first|(refine lJ rfl 175 _ rfl c 0 rfl [.int .i64 (lv:Int),.int .i64 (rk:Int)] _ RS.out underlying175 rfl bZ ?_)|(refine⟨trivial,?_⟩;gi_at_call 101;fail))
   refine⟨trivial,?_⟩;refine(CallsIn.inRound l (callsIn_wide.2 (Gm base b lv rk C R' LL aF _ _ Wx NU.out.1 RB.out.1 RB.out.2.1 (fun h0=>by have h1:=RB.out.2.2 h0;rw[HLen.out.1,HLen.out.2,h1.1];omega) (by rw[HLen.out.1,HLen.out.2];omega)))).mono ?_;rintro e W5 ⟨rfl,b5⟩;rw[Y8.out];have B5:=aa b5;have I5:=aa (HI.out.below b5);have F5:=aa (NU.out.1.below b5);have D5:=aa (HFD.out.below b5);have K5:=aa (kc.below b5 kc.lt);clear b5;cases hst:fE m bf ol sP.1 k with
   |false=>
    have HE:=ae (bS m bf ol sP k=sP) (by unfold bS;rw[hst];simp);clear hst c1;gi_wp2
    refine⟨(mG B5.out).from _,trivial,?_⟩;have h:=I5.out;refine⟨?_,?_,?_,?_,h.ptr,h.en,?_,h.Pa,h.size⟩;all_goals (rw[HST.out,HE.out,Rk.out])
    ·exact h.ok
    ·exact h.wf
    ·exact h.lT
    ·exact h.fl
    ·exact h.gv
   |true=>
    have HZ0:=aa (wU hst);have HGv:=ae (bS m bf ol sP k=jw bf ol sP.1 k) (by unfold bS;rw[hst,OP.out.2.1];rfl);have RS5:=aa (jF K5.out);have d1:=(I5.out.ptr.cell 0).trans (show _=some (.pointer (some ⟨b,0,none⟩)) from rfl);have HO:=ae (ol.getD k 0=(LL (2+lv)).getD rk 0) (by rw[Po.out.1,Po.out.2];exact(NU.out.2.was hk2).symm);have HLL:=ae ((LL (5+lv)).length≤100001) (by
     have h0:=NU.out.2.g0l;have h1:=NU.out.2.g1l;rcases(show lv=0∨lv=1 by have:=RB.out.1;omega) with e|e<;>subst e
     ·show(LL 5).length≤_;omega
     ·show(LL 6).length≤_;omega)
    have QF:(sP.1.od.map (aR m)).length≤1000:=(by rw[List.length_map];have:=OP.out.1.jb;omega);have Y9:base≤W5.heap.size:=aK hbs (aK Y7.out.size B5.out.size);clear hst c1;gi_wp2_with (first|(refine lJ rfl 175 _ rfl c 0 rfl [.int .i64 (lv:Int),.int .i64 (rk:Int)] _ RS5.out underlying175 rfl bZ ?_)|(refine⟨trivial,?_⟩;gi_at_call 102;fail))
    refine⟨trivial,?_⟩;refine(CallsIn.inRound l (callsIn_wide.2 (G9 base b lv rk n sP.1.cu C R' LL aF _ W5 F5.out RB.out.1 RB.out.2.1 HLen.out.1.symm HLen.out.2 OP.out.1.cu hn HLL.out QF Y9 (ol.getD k 0) HO.out (H.out.2.2.2.2.1 k hk2) (by rw[NU.out.2.ws];exact OP.out.1.wr)))).mono ?_;rintro e W6 hG;unfold ot at hG;rw[NU.out.2.ws,NU.out.2.bf] at hG;cases hpk:fD sP.1.ws bf sP.1.cu with
    |none=>
     rw[hpk] at hG;obtain⟨rfl,b6⟩:=hG;have HE:=ae (bS m bf ol sP k=(sP.1,false)) (by rw[HGv.out];unfold jw;rw[hpk]);have B6:=aa b6;have RK:=I5.out.en.below b6 I5.out.en.lt;have e6:=(RK.cell 0).trans (show _=some (.bool true) from rfl);have f6:=RK.frozen 0;have E6:=aa RK;clear hpk b6 RK d1;gi_wp2
     have hkp:cR w W6 b R vo R' aF:=(Y7.out.trans (cR.cV b R' aF B5.out)).trans (cR.cV b R' aF B6.out);have hlow:Below w.heap.size W6 (W6.setCell ⟨w.heap.size+1,0,none⟩ (.bool false)):=ak.setCell (p:=⟨w.heap.size+1,0,none⟩) (by show w.heap.size≤w.heap.size+1;omega) _;have hko:KeepsOthers W5 (W6.setCell ⟨w.heap.size+1,0,none⟩ (.bool false)):=(mG B6.out).trans (KeepsOthers.setCell _ _ _);refine⟨((mG B5.out).trans hko).from _,rfl,⟨?_,?_,?_,E6.out.set 0 _,I5.out.Pa.keep hko,by have:=I5.out.size;have:=B6.out.size;simp;omega⟩⟩;all_goals (rw[HST.out,HE.out])
     ·exact OP.out.1
     ·exact⟨R',aF,(D5.out.below B6.out).rO E6.out,hkp.low hlow⟩
    |some q=>
     rw[hpk] at hG;obtain⟨rfl,C',R'',Tx,hF6,Ul⟩:=hG;have HE:=ae (bS m bf ol sP k=(gC ol sP.1 k q,true)) (by rw[HGv.out];unfold jw;rw[hpk]);have hq:=qw OP.out.1.cu.1 (by rw[OP.out.1.wl];exact OP.out.1.cu.2) hpk;rw[OP.out.1.wl] at hq;have hz0:sP.1.pl.getD k 0=0:=HZ0.out;have Vy:cF m n (gC ol sP.1 k q):=OP.out.1.move hn ol hk2 hz0 ⟨hq.1,hq.2.1⟩;have Vz:ef W6 base b m bf ol (gC ol sP.1 k q) R'' Tx:=by
      refine⟨C',lP LL lv rk q (ol.getD k 0),?_,?_⟩
      ·have e1:(gC ol sP.1 k q).od.map (aR m)=sP.1.od.map (aR m)++[(lv,rk)]:=(by show(sP.1.od++[k]).map (aR m)=_;rw[List.map_append,Po.out.1,Po.out.2];rfl);have e2:((gC ol sP.1 k q).cu:Int)=dg n q:=(by show(((dg sP.1.ws.length q).toNat:Nat):Int)=_;rw[OP.out.1.wl];exact(sZ hq.1 hq.2.1 hn).1.symm);rw[e1,e2];exact hF6
      ·have h:=NU.out.2.move (n:=n) OP.out.1.pn (k:=k) (p:=q) hk2;rw[Po.out.1,Po.out.2];have e1:(gC ol sP.1 k q).od.map (aR m)=sP.1.od.map (aR m)++[aR m k]:=(by show(sP.1.od++[k]).map (aR m)=_;rw[List.map_append];rfl);rw[e1];exact h
     have RK:=Ul.uQ D5.out I5.out.en (by decide) (by decide) (by decide);have Xv:=Ul.uQ D5.out I5.out.gv (by decide) (by decide) (by decide);have pt6:=Ul.uQ D5.out I5.out.ptr (by decide) (by decide) (by decide);have e6:=(RK.cell 0).trans (show _=some (.bool true) from rfl);have f6:=RK.frozen 0;have g6:=(Xv.cell 0).trans (show _=some (.bool _) from rfl);have h6:=Xv.frozen 0;have hne1:c4≠w.heap.size+1:=(by omega);have hne2:w.heap.size+1≠c4:=(by omega);have H6:=aa (ai Vz (ai Ul (ai RK (ai Xv (ai pt6 Vy)))));clear hpk hq hz0 Vy Vz RK Xv pt6 hF6 Ul d1;generalize decide (((pre.map (·.1)).foldl (bS m bf ol) (s1,true)).1.od.length≠s1.od.length)=gb at g6 H6;gi_wp2
     have hlow:Below w.heap.size W6 ((W6.setCell ⟨w.heap.size+1,0,none⟩ (.bool true)).setCell ⟨c4,0,none⟩ (.bool true)):=(ak.setCell (p:=⟨w.heap.size+1,0,none⟩) (by show w.heap.size≤w.heap.size+1;omega) _).setCell (p:=⟨c4,0,none⟩) (by show w.heap.size≤c4;omega) _;have hko:KeepsOthers W5 ((W6.setCell ⟨w.heap.size+1,0,none⟩ (.bool true)).setCell ⟨c4,0,none⟩ (.bool true)):=(H6.out.2.1.Hh D5.out).trans ((KeepsOthers.setCell _ _ _).trans (KeepsOthers.setCell _ _ _));have hkp:cR w W6 b R vo R'' Tx:=(Y7.out.trans (cR.cV b R' aF B5.out)).trans H6.out.2.1;have g7:=H6.out.2.2.2.1.other ⟨w.heap.size+1,0,none⟩ (.bool true) (by show c4≠w.heap.size+1;omega);refine⟨((mG B5.out).trans hko).from _,trivial,⟨?_,?_,?_,?_,?_,?_,?_,I5.out.Pa.keep hko,?_⟩⟩
     ·rw[HST.out,HE.out]
     ·rw[HST.out,HE.out];exact H6.out.2.2.2.2.2
     ·rw[HST.out,HE.out];show s1.od.length≤(sP.1.od++[k]).length;have:=OP.out.2.2;simp;omega
     ·rw[HST.out,HE.out];exact⟨R'',Tx,(H6.out.1.rO H6.out.2.2.1).rO g7,hkp.low hlow⟩
     ·exact(H6.out.2.2.2.2.1.other _ _ (by show w.heap.size≠w.heap.size+1;omega)).other _ _ (by show w.heap.size≠c4;omega)
     ·exact(H6.out.2.2.1.set 0 _).other _ _ (by show w.heap.size+1≠c4;omega)
     ·rw[HST.out,HE.out,show decide ((gC ol sP.1 k q).od.length≠s1.od.length)=true by
       have h1:=OP.out.2.2;have h2:(gC ol sP.1 k q).od.length=sP.1.od.length+1:=(by show(sP.1.od++[k]).length=_;simp);rw[decide_eq_true_eq,h2];omega]
      exact g7.set 0 _
     ·have:=I5.out.size;have:=H6.out.2.1.size;simp;omega
  case done=>
   rintro D xs W hD hS hI hK;rw[hS] at hI;have HI:=aa (ai hI hK);obtain⟨gb,hgb⟩:∃gb,gb=decide (((cE m).foldl (bS m bf ol) (s1,true)).1.od.length≠s1.od.length):=⟨_,rfl⟩;have hgv:=hI.gv;rw[←hgb] at hgv;have e4:=(hgv.cell 0).trans (show _=some (.bool gb) from rfl);have Qg:=aa hgb;have hsW:=hI.size;clear hI hK hS hgb hgv;gi_wp2
   have bA:Below W.heap.size W (W.alloc (.cells #[.bool gb] 4)):=ak.alloc aj _;obtain⟨WA,Za⟩:∃WA,WA=W.alloc (.cells #[.bool gb] 4):=⟨_,rfl⟩;have hbn:af WA W.heap.size #[.bool gb] 4:=(by rw[Za];exact af.new _ _ _);have hsA:WA.heap.size=W.heap.size+1:=(by rw[Za];simp);rw[←Za] at bA⊢;have hJ:=HI.out.1.below bA;have Zc:(cE m).foldl (bS m bf ol) (s1,true)=cW m bf ol s1:=rfl;have hDW:D<W.heap.size:=(Array.getElem?_eq_some_iff.1 HI.out.2).1;have hwf:=HL.out.wf;have hLN:rR w base b m n bf ol R vo T (cW m bf ol s1).1 W.heap.size gb (D::Ds) WA:=by
    refine⟨hJ.wf,hJ.fl,⟨fun hg=>?_,fun hg=>?_⟩,hJ.ptr,hJ.en,hbn,by omega,fun D' hD'=>?_,fun D' hD'=>?_,List.nodup_cons.2 ⟨fun h=>?_,HL.out.nd⟩⟩
    ·have h1:=hwf.jb;have h2:=PL.out.1;obtain⟨f',rfl⟩:∃f',f=f'+1:=⟨f-1,by omega⟩;have h3:=PL.out.2;rw[fJ] at h3;have h4:(cW m bf ol s1).1.od.length≠s1.od.length:=(by rw[hg] at Qg;have:=Qg.out;rw[Zc] at this;exact of_decide_eq_true this.symm);have h5:(cW m bf ol s1).2=true:=hJ.ok;rw[h5,decide_eq_true h4] at h3;have h6:s1.od.length≤(cW m bf ol s1).1.od.length:=hJ.lT;exact⟨f',by omega,h3⟩
    ·have h1:=hwf.jb;have h2:=PL.out.1;obtain⟨f',rfl⟩:∃f',f=f'+1:=⟨f-1,by omega⟩;have h3:=PL.out.2;rw[fJ] at h3;have h4:decide ((cW m bf ol s1).1.od.length≠s1.od.length)=false:=(by rw[hg] at Qg;have:=Qg.out;rw[Zc] at this;exact this.symm);have h5:(cW m bf ol s1).2=true:=hJ.ok;rw[h4,Bool.and_false] at h3;have h6:cW m bf ol s1=T:=h3;rw[←h6, ←h5]
    ·rcases List.mem_cons.1 hD' with rfl|h
     ·exact(bA.block _ hDW).trans HI.out.2
     ·exact hJ.Pa D' h
    ·rcases List.mem_cons.1 hD' with rfl|h
     ·exact⟨by omega,by omega⟩
     ·have:=(HL.out.lo D' h).1;have:=SH.out D' h;exact⟨by omega,by omega⟩
    ·have:=SH.out D h;omega
   refine⟨⟨(cW m bf ol s1).1,W.heap.size,gb,D::Ds,_,_,_,_,_,_,_,_,_,_,_,_,_,_,_,rfl,aa hLN⟩,?_⟩;rw[HMU.out _ _ _ _ _ _ hLN rfl,HMU.out s1 c4 true Ds wr _ HL.out rfl];have h1:=hJ.wf.jb;have h2:s1.od.length≤(cW m bf ol s1).1.od.length:=hJ.lT;have h3:(cW m bf ol s1).1.od.length≤m+1:=h1;have h4:=Qg.out;rw[Zc] at h4;cases gb with
   |false=>simp only[if_true];simp;omega
   |true=>
    have h5:(cW m bf ol s1).1.od.length≠s1.od.length:=of_decide_eq_true h4.symm;simp only[if_true];omega
  case stop=>
   rintro D cd pre W hD hSp ⟨rfl,hX⟩ hK;have VA:=aa (ai hX hK);have e3:=(hX.en.cell 0).trans (show _=some (.bool false) from rfl);have hDW:D<W.heap.size:=(Array.getElem?_eq_some_iff.1 hK).1;have HT:=ae (T=(((pre.map (·.1)).foldl (bS m bf ol) (s1,true)).1,false)) (by
    have h1:=HL.out.wf.jb;have h2:=PL.out.1;obtain⟨f',rfl⟩:∃f',f=f'+1:=⟨f-1,by omega⟩;have h3:=PL.out.2;have h4:=Hj hSp hX.ok;rw[fJ,h4] at h3;simp at h3;exact h3.symm)
   clear hX hK hSp;gi_wp2
   go_wp2;rw[Exit.noGoto_ret];refine uP w.heap.size (D::Ds) W (fun D' hD'=>?_) (List.nodup_cons.2 ⟨fun h=>by have:=SH.out D h;omega,HL.out.nd⟩) (fun D' hD'=>?_) (fun W' hb hkeep=>?_)
   ·rcases List.mem_cons.1 hD' with rfl|h
    ·exact VA.out.2
    ·exact VA.out.1.Pa D' h
   ·rcases List.mem_cons.1 hD' with rfl|h
    ·omega
    ·exact(HL.out.lo D' h).1
   refine⟨_,results_tmp rfl _ _ _,?_⟩;obtain⟨R',aF,hF,hK⟩:=VA.out.1.fl;rw[HT.out];refine⟨rfl,R',aF,hF.zJ (fun k C t hk=>hkeep k (fun hD2=>?_)),hK.low hb⟩;have h9:W.heap[k]?=some (.deferred (some [])):=by
    rcases List.mem_cons.1 hD2 with rfl|h
    ·exact VA.out.2
    ·exact VA.out.1.Pa k h
   rw[hk] at h9;cases h9
end
end Go.Proofs.YtpplnhkpcpieoaaGreatDoor
