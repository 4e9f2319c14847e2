/- The program's passes. -/
import Derived.Test.YtlimollpocagiaaGreatDoorXa25
import Derived.WalkMore
namespace Go.Proofs.YtlimollpocagiaaGreatDoor
open Go.Proofs.Tryz
set_option linter.all false
set_option maxRecDepth 100000
set_option maxHeartbeats 16000000
section
open Go.RowKit Go.Shelf
attribute [local go_sem] Oper.semAt_some
def dA(W:World)(base b m:Nat)(bf ol:List Int)(s:FD)(R:Nat→Value)(vo:Value):Prop:=∃C LL,Fl W base b C R LL vo (s.od.map (aO m)) (s.cu:Int)∧iG m bf ol LL (s.od.map (aO m)) s
theorem dA.below{W W':World}{base b m:Nat}{bf ol:List Int}{s:FD}{R:Nat→Value}{vo:Value}(h:dA W base b m bf ol s R vo)(hb:Below W.heap.size W W'):dA W' base b m bf ol s R vo:=by
 obtain⟨C,LL,h1,h2⟩:=h;exact⟨C,LL,h1.below hb,h2⟩
theorem dA.vi{W:World}{base b m:Nat}{bf ol:List Int}{s:FD}{R:Nat→Value}{vo:Value}(h:dA W base b m bf ol s R vo){k:Nat}{C:Array Value}{t:TypeId}(hk:af W k C t)(h1:t≠113)(h2:t≠3)(h3:t≠123):¬iY b R vo k:=by
 obtain⟨C',LL,hf,_⟩:=h;rintro (rfl|⟨j,hj,e⟩|e)
 ·have h4:W.heap[k]?=some (.cells C' 113 (0,0)):=hf.box;have h5:W.heap[k]?=some (.cells C t (0,0)):=hk;rw[h4] at h5;injection h5 with h5;injection h5 with _ h5 _;exact h1 h5.symm
 ·exact eK (hf.row j hj) hk h2 e
 ·exact eK hf.orow hk h3 e
theorem bQ.BG{w w':World}{base b m:Nat}{bf ol:List Int}{s:FD}{R R':Nat→Value}{vo vo':Value}(h:bQ w w' b R vo R' vo')(hf:dA w base b m bf ol s R vo):KeepsOthers w w':=by
 obtain⟨C,LL,h1,h2⟩:=hf;have:=h.keeps h1 0;exact⟨this.size,fun k o hk ho=>this.same k o (Nat.zero_le _) hk ho⟩
theorem bQ.qK{w w':World}{base b m:Nat}{bf ol:List Int}{s:FD}{R R':Nat→Value}{vo vo':Value}(h:bQ w w' b R vo R' vo')(hf:dA w base b m bf ol s R vo){k:Nat}{C:Array Value}{t:TypeId}(hk:af w k C t)(h1:t≠113)(h2:t≠3)(h3:t≠123):af w' k C t:=(h.block k hk.lt (hf.vi hk h1 h2 h3)).trans hk
theorem dA.vj{W W':World}{base b m:Nat}{bf ol:List Int}{s:FD}{R:Nat→Value}{vo:Value}(h:dA W base b m bf ol s R vo)(hk:∀(k:Nat) (C:Array Value) (t:TypeId),W.heap[k]?=some (Obj.cells C t (0,0))→W'.heap[k]?=W.heap[k]?):dA W' base b m bf ol s R vo:=by
 obtain⟨C,LL,h1,h2⟩:=h;have keyO:∀{base n sz:Nat} {e:TypeId} {v:Value} {xs:List Value},W.ownsRow base e sz v n xs→W'.ownsRow base e sz v n xs:=fun {base n sz e v xs} ho=>dh ho (fun k hv=>by
  rcases ho.2 with⟨rfl,_⟩|⟨g,cap,cur,rfl,_,hgg,_⟩
  ·cases hv
  ·obtain rfl:g=k:=(by simpa [Value.ownBlock] using hv);exact hk _ _ _ hgg)
 exact⟨C,LL,⟨(hk _ _ _ h1.box).trans h1.box,h1.at_,fun j hj=>keyO (h1.row j hj),h1.apart,h1.ord,keyO h1.orow,h1.cur⟩,h2⟩
theorem bQ.low{w W W':World}{b:Nat}{R R':Nat→Value}{vo vo':Value}(h:bQ w W b R vo R' vo')(hb:Below w.heap.size W W'):bQ w W' b R vo R' vo':=
 ⟨hb.os.trans h.os,hb.tape.trans h.tape,hb.output.trans h.output,aN h.size hb.size,fun k hk hn=>(hb.block k hk).trans (h.block k hk hn),h.own⟩
theorem dA.nZ{W:World}{base b m c:Nat}{bf ol:List Int}{s:FD}{R:Nat→Value}{vo x:Value}{C:Array Value}(h:dA W base b m bf ol s R vo)(hc:af W c C 4):dA (W.setCell ⟨c,0,none⟩ x) base b m bf ol s R vo:=by
 have hno:=h.vi hc (by decide) (by decide) (by decide);obtain⟨C',LL,h1,h2⟩:=h;have hk:∀k,k≠c→(W.setCell ⟨c,0,none⟩ x).heap[k]?=W.heap[k]?:=fun k hk=>Below.heap_setCell W ⟨c,0,none⟩ _ k (fun e=>hk e);exact⟨C',LL,⟨(hk b (fun e=>hno (.inl e.symm))).trans h1.box,h1.at_,fun j hj=>dh (h1.row j hj) (fun k hv=>hk k (fun e=>hno (.inr (.inl ⟨j,hj,by rw[←e];exact hv⟩)))),h1.apart,h1.ord,dh h1.orow (fun k hv=>hk k (fun e=>hno (.inr (.inr (by rw[←e];exact hv))))),h1.cur⟩,h2⟩
theorem vk(m:Nat)(bf ol:List Int)(s:FD):∀ks:List Nat,ks.foldl (aZ m bf ol) (s,false)=(s,false)
 |[]=>rfl
 |k::ks=>by rw[List.foldl_cons];exact vk m bf ol s ks
theorem BH{m:Nat}{bf ol:List Int}{s1:FD}{pm:List Nat}(h:pm<+:aL m)(hf:(pm.foldl (aZ m bf ol) (s1,true)).2=false):bU m bf ol s1=((pm.foldl (aZ m bf ol) (s1,true)).1,false):=by
 obtain⟨t,ht⟩:=h;unfold bU;rw[←ht,List.foldl_append];have h5:pm.foldl (aZ m bf ol) (s1,true)=((pm.foldl (aZ m bf ol) (s1,true)).1,false):=by rw[←hf]
 rw[h5,vk]
structure jY(w:World)(base b m n:Nat)(bf ol:List Int)(R:Nat→Value)(vo:Value)(s1:FD)(c4 X:Nat)(Ds:List Nat)(n₁:Nat)(pre:List Nat)(W:World):Prop where
 ok:(pre.foldl (aZ m bf ol) (s1,true)).2=true
 wf:bg m n (pre.foldl (aZ m bf ol) (s1,true)).1
 jb:s1.od.length≤(pre.foldl (aZ m bf ol) (s1,true)).1.od.length
 fl:∃R' vo',dA W base b m bf ol (pre.foldl (aZ m bf ol) (s1,true)).1 R' vo'∧bQ w W b R vo R' vo'
 ptr:af W w.heap.size #[.pointer (some ⟨b,0,none⟩)] 60
 en:af W (w.heap.size+1) #[.bool true] 4
 gv:af W c4 #[.bool (decide ((pre.foldl (aZ m bf ol) (s1,true)).1.od.length≠s1.od.length))] 4
 mks:jr Ds W
 size:n₁≤W.heap.size
structure n5(w:World)(base b m n:Nat)(bf ol:List Int)(R:Nat→Value)(vo:Value)(s1:FD)(Ds:List Nat)(n₁:Nat)(pre:List Nat)(W:World):Prop where
 ok:(pre.foldl (aZ m bf ol) (s1,true)).2=false
 wf:bg m n (pre.foldl (aZ m bf ol) (s1,true)).1
 fl:∃R' vo',dA W base b m bf ol (pre.foldl (aZ m bf ol) (s1,true)).1 R' vo'∧bQ w W b R vo R' vo'
 en:af W (w.heap.size+1) #[.bool false] 4
 mks:jr Ds W
 size:n₁≤W.heap.size
theorem dA.fq{A B:World}{row:Option Nat}{z base b m:Nat}{bf ol:List Int}{s:FD}{R:Nat→Value}{vo:Value}(h:dA A base b m bf ol s R vo)(hg:A.grownBy B row)(hr:∀r,row=some r→z≤r∧∃o,A.heap[r]?=some o∧o.isCells=false):dA B base b m bf ol s R vo:=by
 obtain⟨C,LL,h1,h2⟩:=h;exact⟨C,LL,h1.fq hg hr,h2⟩
theorem jY.own{w:World}{base b m n:Nat}{bf ol:List Int}{R:Nat→Value}{vo:Value}{s1:FD}{c4 X:Nat}{Ds:List Nat}{n₁:Nat}(hw:w.heap.size+2≤n₁)(hc:c4<n₁)(hD:∀D∈Ds,D<n₁):OwnFrom n₁ (jY w base b m n bf ol R vo s1 c4 X Ds n₁):=by
 intro pre A B row h hg hr;have hs:=h.size;have hk:∀k,k<n₁→B.heap[k]?=A.heap[k]?:=fun k hk=>hg.block k (by omega) (fun e=>by have:=(hr k e.symm).1;omega);obtain⟨R',vo',h1,h2⟩:=h.fl;exact⟨h.ok,h.wf,h.jb,⟨R',vo',h1.fq hg hr,h2.fq hg hr (by omega)⟩,(hk _ (by omega)).trans h.ptr,(hk _ (by omega)).trans h.en,(hk _ (by omega)).trans h.gv,h.mks.grown hD hg (fun r e=>(hr r e).1),aN h.size hg.size⟩
theorem jY.below{w:World}{base b m n:Nat}{bf ol:List Int}{R:Nat→Value}{vo:Value}{s1:FD}{c4 X:Nat}{Ds:List Nat}{n₁:Nat}{pre:List Nat}{W W':World}(h:jY w base b m n bf ol R vo s1 c4 X Ds n₁ pre W)(hb:Below W.heap.size W W'):jY w base b m n bf ol R vo s1 c4 X Ds n₁ pre W':=by
 obtain⟨R',vo',h1,h2⟩:=h.fl;exact⟨h.ok,h.wf,h.jb,⟨R',vo',h1.below hb,h2.trans (bQ.bT b R' vo' hb)⟩,h.ptr.below hb h.ptr.lt,h.en.below hb h.en.lt,h.gv.below hb h.gv.lt,fun D hD=>(hb.block D (Array.getElem?_eq_some_iff.1 (h.mks D hD)).1).trans (h.mks D hD),aN h.size hb.size⟩
theorem jZ{W W':World}(hb:Below W.heap.size W W'):KeepsOthers W W':=⟨hb.size,fun k o hk _=>(hb.block k (Array.getElem?_eq_some_iff.1 hk).1).trans hk⟩
theorem n7(m k:Nat)(hm:m≤16):(aO m k).1<2∧(aO m k).2≤700:=by unfold aO;split<;>(constructor<;>(simp<;>omega))
theorem n5.own{w:World}{base b m n:Nat}{bf ol:List Int}{R:Nat→Value}{vo:Value}{s1:FD}{Ds:List Nat}{n₁:Nat}(hw:w.heap.size+2≤n₁)(hD:∀D∈Ds,D<n₁):OwnFrom n₁ (n5 w base b m n bf ol R vo s1 Ds n₁):=by
 intro pre A B row h hg hr;have hs:=h.size;have hk:∀k,k<n₁→B.heap[k]?=A.heap[k]?:=fun k hk=>hg.block k (by omega) (fun e=>by have:=(hr k e.symm).1;omega);obtain⟨R',vo',h1,h2⟩:=h.fl;exact⟨h.ok,h.wf,⟨R',vo',h1.fq hg hr,h2.fq hg hr (by omega)⟩,(hk _ (by omega)).trans h.en,h.mks.grown hD hg (fun r e=>(hr r e).1),aN h.size hg.size⟩
structure oe(w:World)(base b m n:Nat)(bf ol:List Int)(R:Nat→Value)(vo:Value)(T:FD×Bool)(s1:FD)(c4:Nat)(gv:Bool)(Ds:List Nat)(W:World):Prop where
 wf:bg m n s1
 fl:∃R' vo',dA W base b m bf ol s1 R' vo'∧bQ w W b R vo R' vo'
 run:(gv=true→∃f,m+2≤f+s1.od.length∧eH m bf ol f s1=T)∧(gv=false→(s1,true)=T)
 ptr:af W w.heap.size #[.pointer (some ⟨b,0,none⟩)] 60
 en:af W (w.heap.size+1) #[.bool true] 4
 gvb:af W c4 #[.bool gv] 4
 c4l:w.heap.size+2≤c4
 mks:jr Ds W
 lo:∀D∈Ds,w.heap.size≤D∧D<W.heap.size
 nd:Ds.Nodup
def qL(b m:Nat)(a:Act)(w:World):Nat:=2*(m+2-kr b 8 w)+match a.tmps.getD 4 undef with
 |.pointer (some ad)=>(match w.cell? ad with|some (.bool true)=>1|_=>0)
 |_=>0
def BI(base b m:Nat)(bf ol:List Int)(R:Nat→Value)(vo:Value)(T:FD×Bool)(w w':World)(e:Ending):Prop:=e=.returned (.bool T.2)∧∃R' vo',dA w' base b m bf ol T.1 R' vo'∧bQ w w' b R vo R' vo'
theorem BJ(base b m n:Nat)(bf ol:List Int)(R:Nat→Value)(vo:Value)(s:FD)(w:World)(h:dA w base b m bf ol s R vo)(hwf:bg m n s)(hm:m=(n+127)/128)(hn:n≤2048)(hbl:bf.length=n)(hol:∀k,k<m+1→0≤ol.getD k 0∧ol.getD k 0<n)(hbs:base≤w.heap.size)(T:FD×Bool)(hT:eH m bf ol (m+2) s=T):
 Calls prog 28 #[.pointer (some ⟨b,0,none⟩)] w fun e w'=>BI base b m bf ol R vo T w w' e:=by
 have H:=aa (ag h (ag hwf (ag hm (ag hbl (ag hol hT)))));clear h hwf hm hbl hol hT;refine(callsIn_wide (n:=6)).1 ?_;refine callsIn_of_wp_marks func28 rfl trivial ?_ rfl;simp only[ntmps28,List.size_toArray,List.length_cons,List.length_nil,Nat.reduceAdd,Nat.reduceSub,Array.replicate_succ,Array.replicate_zero,List.push_toArray,List.append_toArray,List.nil_append,List.cons_append];gi_upto_region 1 with fail
 refine wpIn_wide.2 ?_;refine wp_scope_straight ?_;go_wp2;go_step3;go_wp2;refine(wpIn_wide (n:=6)).1 ?_;have HW0:=ae (∃W0,W0=((w.alloc (.cells #[.pointer (some ⟨b,0,none⟩)] 60)).alloc (.cells #[.bool true] 4)).alloc (.cells #[.bool true] 4)) (⟨_,rfl⟩);obtain⟨W0,hW0⟩:=HW0.out;rw[←hW0];have B0:Below w.heap.size w W0:=by rw[hW0];exact((ak.alloc aj _).alloc (by simp) _).alloc (by simp;omega) _
 have L0:=ae (oe w base b m n bf ol R vo T s (w.heap.size+1+1) true [] W0) (by
  refine⟨H.out.2.1,⟨R,vo,H.out.1.below B0,bQ.bT b R vo B0⟩,⟨fun _=>⟨m+2,by omega,H.out.2.2.2.2.2⟩,fun h=>by cases h⟩,?_,?_,?_,aj,(fun D hD=>by cases hD),(fun D hD=>by cases hD),List.nodup_nil⟩
  ·rw[hW0];exact((af.new w _ _).alloc _).alloc _
  ·rw[hW0];have h:=(af.new (w.alloc (.cells #[.pointer (some ⟨b,0,none⟩)] 60)) #[.bool true] 4).alloc (.cells #[.bool true] 4);simpa using h
  ·rw[hW0];have h:=(af.new ((w.alloc (.cells #[.pointer (some ⟨b,0,none⟩)] 60)).alloc (.cells #[.bool true] 4)) #[.bool true] 4);simpa using h)
 clear B0 hW0 HW0;refine wpIn_loop (fun a' w'=>∃(s1:FD) (c4:Nat) (gv:Bool) (Ds:List Nat) (u5 u6 u7 u8 u9 u10 u11 u12 u13 u14 u15 u16 u17 u18 u19:Value),a'={tmps:=#[.pointer (some ⟨b,0,none⟩),.pointer (some ⟨w.heap.size,0,none⟩),.bool false,.pointer (some ⟨w.heap.size+1,0,none⟩),.pointer (some ⟨c4,0,none⟩),u5,u6,u7,u8,u9,u10,u11,u12,u13,u14,u15,u16,u17,u18,u19,undef],defers:=vh Ds}∧Hid (oe w base b m n bf ol R vo T s1 c4 gv Ds w')) (qL b m) ⟨s,_,true,[],_,_,_,_,_,_,_,_,_,_,_,_,_,_,_,rfl,L0⟩ ?_;intro a' wr hinv;obtain⟨s1,c4,gv,Ds,u5,u6,u7,u8,u9,u10,u11,u12,u13,u14,u15,u16,u17,u18,u19,rfl,HL⟩:=hinv;have c1:=(HL.out.ptr.cell 0).trans (show _=some (.pointer (some ⟨b,0,none⟩)) from rfl);have c3:=(HL.out.en.cell 0).trans (show _=some (.bool true) from rfl);have c4c:=(HL.out.gvb.cell 0).trans (show _=some (.bool gv) from rfl);have f4:=HL.out.gvb.frozen 0;have HMU:=ae (∀(sX:FD) (cX:Nat) (gX:Bool) (DX:List Nat) (wX:World) (aX:Act),oe w base b m n bf ol R vo T sX cX gX DX wX→aX.tmps.getD 4 undef=.pointer (some ⟨cX,0,none⟩)→qL b m aX wX=2*(m+2-sX.od.length)+(if gX then 1 else 0)) (fun sX cX gX DX wX aX hL ha=>by
  obtain⟨R',vo',⟨C',LL,hF,_⟩,_⟩:=hL.fl;obtain⟨oa,oc,rfl⟩:=dM hF.orow;have e8:=(hF.box.cell 8).trans hF.ord;have e4:=(hL.gvb.cell 0).trans (show _=some (.bool gX) from rfl);unfold qL kr;rw[e8,ha];simp only[e4,List.length_map];cases gX<;>rfl)
 cases gv with
 |false=>
  have HT:=aa (HL.out.run.2 rfl);clear c1 f4;gi_wp2
  go_wp2;rw[Exit.noGoto_ret];refine qJ w.heap.size Ds wr HL.out.mks HL.out.nd (fun D hD=>(HL.out.lo D hD).1) (fun W' hb hkeep=>?_);refine⟨_,results_tmp rfl _ _ _,?_⟩;obtain⟨R',vo',hF,hK⟩:=HL.out.fl;rw[←HT.out];refine⟨rfl,R',vo',hF.vj (fun k C t hk=>hkeep k (fun hD=>?_)),hK.low hb⟩;have:=HL.out.mks k hD;rw[hk] at this;cases this
 |true=>
  obtain⟨f,hf1,hf2⟩:=HL.out.run.1 rfl;have HRun:=aa (ag hf1 hf2);clear hf1 hf2;obtain⟨w1,hw1⟩:∃w1,w1=wr.setCell ⟨c4,0,none⟩ (.bool false):=⟨_,rfl⟩;have c1':w1.cell? ⟨w.heap.size,0,none⟩=some (.pointer (some ⟨b,0,none⟩)):=by
   have:=HL.out.c4l;rw[hw1];exact((HL.out.ptr.other _ _ (by show w.heap.size≠c4;omega)).cell 0).trans rfl
  obtain⟨Wl,hWl⟩:∃Wl,Wl=w1.alloc (.cells #[.pointer (some ⟨b,0,none⟩)] 60):=⟨_,rfl⟩;have hs1:w1.heap.size=wr.heap.size:=by rw[hw1];simp
  have bW:Below w1.heap.size w1 Wl:=by rw[hWl];exact ak.alloc aj _
  have hsl:Wl.heap.size=wr.heap.size+1:=by rw[hWl];simp[hs1]
  have hc4:=HL.out.c4l;have hc4l:c4<wr.heap.size:=HL.out.gvb.lt;have HXB:=ae (Boxed Wl wr.heap.size 60 (.pointer (some ⟨b,0,none⟩))) (by rw[hWl, ←hs1];exact Boxed.new w1 _ _);have HDl:=ae (∀D∈Ds,D<Wl.heap.size) (fun D hD=>by have:=(HL.out.lo D hD).2;omega);have hwl:=HL.out.ptr.lt;have I0:=ae (jY w base b m n bf ol R vo s1 c4 wr.heap.size Ds Wl.heap.size [] Wl) (by
   obtain⟨R',vo',hF,hK⟩:=HL.out.fl;have hk1:∀k,k≠c4→w1.heap[k]?=wr.heap[k]?:=fun k hk=>(by rw[hw1];exact Below.heap_setCell wr ⟨c4,0,none⟩ _ k (fun e=>hk e));refine⟨rfl,HL.out.wf,aj,⟨R',vo',?_,?_⟩,?_,?_,?_,fun D hD=>?_,aj⟩
   ·refine dA.below ?_ bW;rw[hw1];exact hF.nZ HL.out.gvb
   ·refine((hK.low (W':=w1) ?_).trans (bQ.bT b R' vo' bW));exact⟨by rw[hw1];rfl,by rw[hw1];rfl,by rw[hw1];rfl,by omega,fun k hk=>hk1 k (by omega)⟩
   ·exact((hk1 _ (by omega)).trans HL.out.ptr|>fun h=>af.below (b:=w.heap.size) h bW (by omega))
   ·exact((hk1 _ (by omega)).trans HL.out.en|>fun h=>af.below (b:=w.heap.size+1) h bW (by have:=HL.out.en.lt;omega))
   ·rw[show decide ((([]:List Nat).foldl (aZ m bf ol) (s1,true)).1.od.length≠s1.od.length)=false by simp];refine af.below (B:=w1.heap.size) ?_ bW (by omega);rw[hw1];exact HL.out.gvb.set 0 (.bool false)
   ·have h1:=HL.out.mks D hD;have hne:D≠c4:=fun e=>by
     rw[e] at h1;have h2:wr.heap[c4]?=some (.cells #[.bool true] 4 (0,0)):=HL.out.gvb;rw[h1] at h2;cases h2
    have h3:=(HL.out.lo D hD).2;exact(bW.block D (by omega)).trans ((hk1 D hne).trans h1))
  have HW1:=aa hw1;have HWl:=aa hWl;have HX1:=ae (∃g gc,Wl.cell? ⟨b,1,none⟩=some (.slice (some ⟨g,0,none⟩) n gc)) (by
   obtain⟨R',vo',⟨C',LL,hF,hR⟩,_⟩:=I0.out.fl;have hwn:(LL 1).length=n:=(by rw[hR.ws];exact I0.out.wf.wl);obtain⟨g,gc,_,_,hx,_⟩:=hF.ku (by rw[hwn];have:=I0.out.wf.cu;omega);rw[hwn] at hx;exact⟨g,gc,hx⟩)
  obtain⟨g,gc,hx1⟩:=HX1.out;have HX:=aa hx1;clear hx1 HX1 hw1 hWl bW c3 c1;gi_upto_region 5 with fail
  rw[←HW1.out];clear c4c f4;gi_wp2_with (refine⟨trivial,?_⟩;gi_at_call 65;fail)
  refine⟨trivial,?_⟩;refine(vf _ b _).mono ?_;rintro e w' ⟨rfl,rfl⟩;rw[←HWl.out,hs1];gi_wp2
  have hmx:prog.follows .mixedOrders=true:=by kernel_rfl
  refine wpIn_rangeFunc_ownH rfl (by omega) (gf:=98) (lb:=#[.pointer (some ⟨wr.heap.size,0,none⟩)]) rfl trivial (enters_of func98 (by kernel_rfl) rfl)
   (vg 5 (by omega) wr.heap.size b g n gc m H.out.2.2.1 hn Wl HXB.out HX.out) (fun _ _=>trivial) (fun _ _ _ _ _ _ _ _=>trivial) ak (fun _=>rfl)
   (fun pre W=>jY w base b m n bf ol R vo s1 c4 wr.heap.size Ds Wl.heap.size (pre.map (·.1)) W)
   (fun cd pre W=>cd=.exit 0∧n5 w base b m n bf ol R vo s1 Ds Wl.heap.size (pre.map (·.1)) W)
   (by intro pre A B row h hg hr;exact jY.own (by omega) (by omega) HDl.out _ A B row h hg hr)
   (by rintro cd pre A B row ⟨h1,h⟩ hg hr;exact⟨h1,n5.own (by omega) HDl.out _ A B row h hg hr⟩)
   I0.out
   (fun x a' Wx=>∃c,a'={tmps:=#[.pointer (some ⟨b,0,none⟩),.pointer (some ⟨w.heap.size,0,none⟩),.bool false,.pointer (some ⟨w.heap.size+1,0,none⟩),.pointer (some ⟨c4,0,none⟩),.pointer (some ⟨c,0,none⟩),.bool true,.pointer (some ⟨b,0,none⟩),.func (.func 98) #[] #[.pointer (some ⟨wr.heap.size,0,none⟩)],.agg #[.int .i64 ((aO m x.1).1:Int),.int .i64 ((aO m x.1).2:Int)],u10,u11,u12,u13,u14,u15,u16,u17,u18,u19,undef],defers:=[]}∧af Wx c #[.int .i64 ((aO m x.1).1:Int),.int .i64 ((aO m x.1).2:Int)] 123∧c<Wx.heap.size)
   (by
    rintro x a' _ A B row ⟨c,h1,h2,h3⟩ hg hr;refine⟨c,h1,(hg.block c h2.lt (fun e=>?_)).trans h2,Nat.lt_of_lt_of_le h3 hg.size⟩;obtain⟨_,o,ho,hc⟩:=hr c e.symm;have h2':A.heap[c]?=some (Obj.cells _ _ _):=h2;rw[h2'] at ho;cases ho
    cases hc)
   ?assign ?body ?done ?stop
  case assign=>
   rintro l pre x Wx K hI hK;have HK:=aa (ag hI hK);clear hI hK;unfold jX;generalize (aO m x.1).1=lv at HK⊢;generalize (aO m x.1).2=rk at HK⊢;gi_wp2
   have bA:Below Wx.heap.size Wx (Wx.alloc (.cells #[.int .i64 (lv:Int),.int .i64 (rk:Int)] 123)):=ak.alloc aj _;exact HK.out.2 _ _ ((KeepsOthers.alloc _ _).from _) trivial (HK.out.1.below bA) ⟨_,rfl,af.new _ _ _,by simp⟩
  case body=>
   rintro l pre x a' Wx hl hr hI ⟨c,rfl,kc,hcl⟩ hplen;have hm:=H.out.2.2.1;have hm16:m≤16:=(by omega);have hk:=kR x.2;obtain⟨k,hkx⟩:∃k,k=x.1:=⟨_,rfl⟩;rw[←hkx] at kc hk⊢;have HKX:=aa hkx;obtain⟨hp1,hp2⟩:=n7 m k hm16;have HPS:=aa (ag hp1 (ag hp2 (show(aO m k).1=0→(aO m k).2=k∧k<m from fun h=>by unfold aO at h⊢;split at h<;>simp_all)));obtain⟨lv,hlv⟩:∃lv,lv=(aO m k).1:=⟨_,rfl⟩;obtain⟨rk,hrk⟩:∃rk,rk=(aO m k).2:=⟨_,rfl⟩;have HLR:=aa (ag hlv hrk);rw[←hlv, ←hrk] at kc HPS⊢;have hk16:k≤16:=(by omega);have hk2:k<m+1:=hk;have hn127:(n+127)/128=m:=hm.symm;clear hkx hp1 hp2 hlv hrk hk hm hplen;have HI:=aa hI;have RS:=aa (iF kc);have c1:=(hI.ptr.cell 0).trans (show _=some (.pointer (some ⟨b,0,none⟩)) from rfl);obtain⟨R',vo',hFD,hKP⟩:=hI.fl;obtain⟨C,LL,hF,hRel⟩:=hFD;have HFl:=aa (ag hF hRel);have HFD:=ae (dA Wx base b m bf ol _ R' vo') (⟨C,LL,hF,hRel⟩);have HKP:=aa hKP;obtain⟨sP,hsP⟩:∃sP,sP=(pre.map (·.1)).foldl (aZ m bf ol) (s1,true):=⟨_,rfl⟩;have HSP:=aa hsP;have HST:=ae (((pre++[x]).map (·.1)).foldl (aZ m bf ol) (s1,true)=aZ m bf ol sP k) (by rw[List.map_append,List.foldl_append, ←hsP,HKX.out];rfl);rw[←hsP] at HFl HFD;have HWF:=ae (bg m n sP.1∧sP.2=true∧s1.od.length≤sP.1.od.length) (by rw[hsP];exact⟨hI.wf,hI.ok,hI.jb⟩);have hlen1:(LL 1).length=n:=(by rw[HFl.out.2.ws];exact HWF.out.1.wl);have hlen0:(LL 0).length=n:=(by rw[HFl.out.2.bf];exact H.out.2.2.2.1);have HSt:=ae (iD LL lv rk=dX m bf ol sP.1 k) (by rw[HLR.out.1,HLR.out.2];exact HFl.out.2.Bz (by omega) hk2);have HLen:=aa (ag hlen1 hlen0);have hn0:2<n:=(by have:=HWF.out.1.cu;omega);clear hF hRel hKP hsP hI hlen1 hlen0;gi_wp2_with (first|(refine mj rfl 123 _ rfl c 0 rfl [.int .i64 (lv:Int),.int .i64 (rk:Int)] _ RS.out underlying123 rfl ey ?_)|(refine⟨trivial,?_⟩;gi_at_call 66;fail))
   refine⟨trivial,?_⟩;refine(CallsIn.inRound l (callsIn_wide.2 (Bf base b lv rk C R' LL vo' _ _ Wx HFl.out.1 HPS.out.1 HPS.out.2.1 (fun h0=>by have h1:=HPS.out.2.2 h0;rw[HLen.out.1,HLen.out.2,h1.1];omega) (by rw[HLen.out.1,HLen.out.2];omega)))).mono ?_;rintro e W5 ⟨rfl,b5⟩;rw[HSt.out];have B5:=aa b5;have I5:=aa (HI.out.below b5);have F5:=aa (HFl.out.1.below b5);have D5:=aa (HFD.out.below b5);have K5:=aa (kc.below b5 kc.lt);clear b5;cases hst:dX m bf ol sP.1 k with
   |false=>
    have HE:=ae (aZ m bf ol sP k=sP) (by unfold aZ;rw[hst];simp);clear hst c1;gi_wp2
    refine⟨(jZ B5.out).from _,trivial,?_⟩;have h:=I5.out;refine⟨?_,?_,?_,?_,h.ptr,h.en,?_,h.mks,h.size⟩;all_goals (rw[HST.out,HE.out,HSP.out])
    ·exact h.ok
    ·exact h.wf
    ·exact h.jb
    ·exact h.fl
    ·exact h.gv
   |true=>
    have HZ0:=aa (pB hst);have HGv:=ae (aZ m bf ol sP k=fT bf ol sP.1 k) (by unfold aZ;rw[hst,HWF.out.2.1];rfl);have RS5:=aa (iF K5.out);have d1:=(I5.out.ptr.cell 0).trans (show _=some (.pointer (some ⟨b,0,none⟩)) from rfl);have HO:=ae (ol.getD k 0=(LL (2+lv)).getD rk 0) (by rw[HLR.out.1,HLR.out.2];exact(HFl.out.2.was hk2).symm);have HLL:=ae ((LL (5+lv)).length≤100001) (by
     have h0:=HFl.out.2.g0l;have h1:=HFl.out.2.g1l;rcases(show lv=0∨lv=1 by have:=HPS.out.1;omega) with e|e<;>subst e
     ·show(LL 5).length≤_;omega
     ·show(LL 6).length≤_;omega)
    have hodl:(sP.1.od.map (aO m)).length≤1000:=(by rw[List.length_map];have:=HWF.out.1.gh;omega);have hbs5:base≤W5.heap.size:=aN hbs (aN HKP.out.size B5.out.size);clear hst c1;gi_wp2_with (first|(refine mj rfl 123 _ rfl c 0 rfl [.int .i64 (lv:Int),.int .i64 (rk:Int)] _ RS5.out underlying123 rfl ey ?_)|(refine⟨trivial,?_⟩;gi_at_call 67;fail))
    refine⟨trivial,?_⟩;refine(CallsIn.inRound l (callsIn_wide.2 (By base b lv rk n sP.1.cu C R' LL vo' _ W5 F5.out HPS.out.1 HPS.out.2.1 HLen.out.1.symm HLen.out.2 HWF.out.1.cu hn HLL.out hodl hbs5 (ol.getD k 0) HO.out (H.out.2.2.2.2.1 k hk2) (by rw[HFl.out.2.ws];exact HWF.out.1.wr)))).mono ?_;rintro e W6 hG;unfold lJ at hG;rw[HFl.out.2.ws,HFl.out.2.bf] at hG;cases hpk:ff sP.1.ws bf sP.1.cu with
    |none=>
     rw[hpk] at hG;obtain⟨rfl,b6⟩:=hG;have HE:=ae (aZ m bf ol sP k=(sP.1,false)) (by rw[HGv.out];unfold fT;rw[hpk]);have B6:=aa b6;have en6:=I5.out.en.below b6 I5.out.en.lt;have e6:=(en6.cell 0).trans (show _=some (.bool true) from rfl);have f6:=en6.frozen 0;have E6:=aa en6;clear hpk b6 en6 d1;gi_wp2
     have hkp:bQ w W6 b R vo R' vo':=(HKP.out.trans (bQ.bT b R' vo' B5.out)).trans (bQ.bT b R' vo' B6.out);have hlow:Below w.heap.size W6 (W6.setCell ⟨w.heap.size+1,0,none⟩ (.bool false)):=ak.setCell (p:=⟨w.heap.size+1,0,none⟩) (by show w.heap.size≤w.heap.size+1;omega) _;have hko:KeepsOthers W5 (W6.setCell ⟨w.heap.size+1,0,none⟩ (.bool false)):=(jZ B6.out).trans (KeepsOthers.setCell _ _ _);refine⟨((jZ B5.out).trans hko).from _,rfl,⟨?_,?_,?_,E6.out.set 0 _,I5.out.mks.keep hko,by have:=I5.out.size;have:=B6.out.size;simp;omega⟩⟩;all_goals (rw[HST.out,HE.out])
     ·exact HWF.out.1
     ·exact⟨R',vo',(D5.out.below B6.out).nZ E6.out,hkp.low hlow⟩
    |some q=>
     rw[hpk] at hG;obtain⟨rfl,C',R'',vo'',hF6,hk6⟩:=hG;have HE:=ae (aZ m bf ol sP k=(dW ol sP.1 k q,true)) (by rw[HGv.out];unfold fT;rw[hpk]);have hq:=l8 HWF.out.1.cu.1 (by rw[HWF.out.1.wl];exact HWF.out.1.cu.2) hpk;rw[HWF.out.1.wl] at hq;have hz0:sP.1.pl.getD k 0=0:=HZ0.out;have hwf7:bg m n (dW ol sP.1 k q):=HWF.out.1.move hn ol hk2 hz0 ⟨hq.1,hq.2.1⟩;have hFD6:dA W6 base b m bf ol (dW ol sP.1 k q) R'' vo'':=by
      refine⟨C',jC LL lv rk q (ol.getD k 0),?_,?_⟩
      ·have e1:(dW ol sP.1 k q).od.map (aO m)=sP.1.od.map (aO m)++[(lv,rk)]:=(by show(sP.1.od++[k]).map (aO m)=_;rw[List.map_append,HLR.out.1,HLR.out.2];rfl);have e2:((dW ol sP.1 k q).cu:Int)=cf n q:=(by show(((cf sP.1.ws.length q).toNat:Nat):Int)=_;rw[HWF.out.1.wl];exact(pA hq.1 hq.2.1 hn).1.symm);rw[e1,e2];exact hF6
      ·have h:=HFl.out.2.move (n:=n) HWF.out.1.pn (k:=k) (p:=q) hk2;rw[HLR.out.1,HLR.out.2];have e1:(dW ol sP.1 k q).od.map (aO m)=sP.1.od.map (aO m)++[aO m k]:=(by show(sP.1.od++[k]).map (aO m)=_;rw[List.map_append];rfl);rw[e1];exact h
     have en6:=hk6.qK D5.out I5.out.en (by decide) (by decide) (by decide);have gv6:=hk6.qK D5.out I5.out.gv (by decide) (by decide) (by decide);have pt6:=hk6.qK D5.out I5.out.ptr (by decide) (by decide) (by decide);have e6:=(en6.cell 0).trans (show _=some (.bool true) from rfl);have f6:=en6.frozen 0;have g6:=(gv6.cell 0).trans (show _=some (.bool _) from rfl);have h6:=gv6.frozen 0;have hne1:c4≠w.heap.size+1:=(by omega);have hne2:w.heap.size+1≠c4:=(by omega);have H6:=aa (ag hFD6 (ag hk6 (ag en6 (ag gv6 (ag pt6 hwf7)))));clear hpk hq hz0 hwf7 hFD6 en6 gv6 pt6 hF6 hk6 d1;generalize decide (((pre.map (·.1)).foldl (aZ m bf ol) (s1,true)).1.od.length≠s1.od.length)=gb at g6 H6;gi_wp2
     have hlow:Below w.heap.size W6 ((W6.setCell ⟨w.heap.size+1,0,none⟩ (.bool true)).setCell ⟨c4,0,none⟩ (.bool true)):=(ak.setCell (p:=⟨w.heap.size+1,0,none⟩) (by show w.heap.size≤w.heap.size+1;omega) _).setCell (p:=⟨c4,0,none⟩) (by show w.heap.size≤c4;omega) _;have hko:KeepsOthers W5 ((W6.setCell ⟨w.heap.size+1,0,none⟩ (.bool true)).setCell ⟨c4,0,none⟩ (.bool true)):=(H6.out.2.1.BG D5.out).trans ((KeepsOthers.setCell _ _ _).trans (KeepsOthers.setCell _ _ _));have hkp:bQ w W6 b R vo R'' vo'':=(HKP.out.trans (bQ.bT b R' vo' B5.out)).trans H6.out.2.1;have g7:=H6.out.2.2.2.1.other ⟨w.heap.size+1,0,none⟩ (.bool true) (by show c4≠w.heap.size+1;omega);refine⟨((jZ B5.out).trans hko).from _,trivial,⟨?_,?_,?_,?_,?_,?_,?_,I5.out.mks.keep hko,?_⟩⟩
     ·rw[HST.out,HE.out]
     ·rw[HST.out,HE.out];exact H6.out.2.2.2.2.2
     ·rw[HST.out,HE.out];show s1.od.length≤(sP.1.od++[k]).length;have:=HWF.out.2.2;simp;omega
     ·rw[HST.out,HE.out];exact⟨R'',vo'',(H6.out.1.nZ H6.out.2.2.1).nZ g7,hkp.low hlow⟩
     ·exact(H6.out.2.2.2.2.1.other _ _ (by show w.heap.size≠w.heap.size+1;omega)).other _ _ (by show w.heap.size≠c4;omega)
     ·exact(H6.out.2.2.1.set 0 _).other _ _ (by show w.heap.size+1≠c4;omega)
     ·rw[HST.out,HE.out,show decide ((dW ol sP.1 k q).od.length≠s1.od.length)=true by
       have h1:=HWF.out.2.2;have h2:(dW ol sP.1 k q).od.length=sP.1.od.length+1:=(by show(sP.1.od++[k]).length=_;simp);rw[decide_eq_true_eq,h2];omega]
      exact g7.set 0 _
     ·have:=I5.out.size;have:=H6.out.2.1.size;simp;omega
  case done=>
   rintro D xs W hD hS hI hK;rw[hS] at hI;have HI:=aa (ag hI hK);obtain⟨gb,hgb⟩:∃gb,gb=decide (((aL m).foldl (aZ m bf ol) (s1,true)).1.od.length≠s1.od.length):=⟨_,rfl⟩;have hgv:=hI.gv;rw[←hgb] at hgv;have e4:=(hgv.cell 0).trans (show _=some (.bool gb) from rfl);have HGB:=aa hgb;have hsW:=hI.size;clear hI hK hS hgb hgv;gi_wp2
   have bA:Below W.heap.size W (W.alloc (.cells #[.bool gb] 4)):=ak.alloc aj _;obtain⟨WA,hWA⟩:∃WA,WA=W.alloc (.cells #[.bool gb] 4):=⟨_,rfl⟩;have hbn:af WA W.heap.size #[.bool gb] 4:=(by rw[hWA];exact af.new _ _ _);have hsA:WA.heap.size=W.heap.size+1:=(by rw[hWA];simp);rw[←hWA] at bA⊢;have hJ:=HI.out.1.below bA;have hPF:(aL m).foldl (aZ m bf ol) (s1,true)=bU m bf ol s1:=rfl;have hDW:D<W.heap.size:=(Array.getElem?_eq_some_iff.1 HI.out.2).1;have hwf:=HL.out.wf;have hLN:oe w base b m n bf ol R vo T (bU m bf ol s1).1 W.heap.size gb (D::Ds) WA:=by
    refine⟨hJ.wf,hJ.fl,⟨fun hg=>?_,fun hg=>?_⟩,hJ.ptr,hJ.en,hbn,by omega,fun D' hD'=>?_,fun D' hD'=>?_,List.nodup_cons.2 ⟨fun h=>?_,HL.out.nd⟩⟩
    ·have h1:=hwf.gh;have h2:=HRun.out.1;obtain⟨f',rfl⟩:∃f',f=f'+1:=⟨f-1,by omega⟩;have h3:=HRun.out.2;rw[eH] at h3;have h4:(bU m bf ol s1).1.od.length≠s1.od.length:=(by rw[hg] at HGB;have:=HGB.out;rw[hPF] at this;exact of_decide_eq_true this.symm);have h5:(bU m bf ol s1).2=true:=hJ.ok;rw[h5,decide_eq_true h4] at h3;have h6:s1.od.length≤(bU m bf ol s1).1.od.length:=hJ.jb;exact⟨f',by omega,h3⟩
    ·have h1:=hwf.gh;have h2:=HRun.out.1;obtain⟨f',rfl⟩:∃f',f=f'+1:=⟨f-1,by omega⟩;have h3:=HRun.out.2;rw[eH] at h3;have h4:decide ((bU m bf ol s1).1.od.length≠s1.od.length)=false:=(by rw[hg] at HGB;have:=HGB.out;rw[hPF] at this;exact this.symm);have h5:(bU m bf ol s1).2=true:=hJ.ok;rw[h4,Bool.and_false] at h3;have h6:bU m bf ol s1=T:=h3;rw[←h6, ←h5]
    ·rcases List.mem_cons.1 hD' with rfl|h
     ·exact(bA.block _ hDW).trans HI.out.2
     ·exact hJ.mks D' h
    ·rcases List.mem_cons.1 hD' with rfl|h
     ·exact⟨by omega,by omega⟩
     ·have:=(HL.out.lo D' h).1;have:=HDl.out D' h;exact⟨by omega,by omega⟩
    ·have:=HDl.out D h;omega
   refine⟨⟨(bU m bf ol s1).1,W.heap.size,gb,D::Ds,_,_,_,_,_,_,_,_,_,_,_,_,_,_,_,rfl,aa hLN⟩,?_⟩;rw[HMU.out _ _ _ _ _ _ hLN rfl,HMU.out s1 c4 true Ds wr _ HL.out rfl];have h1:=hJ.wf.gh;have h2:s1.od.length≤(bU m bf ol s1).1.od.length:=hJ.jb;have h3:(bU m bf ol s1).1.od.length≤m+1:=h1;have h4:=HGB.out;rw[hPF] at h4;cases gb with
   |false=>simp only[if_true];simp;omega
   |true=>
    have h5:(bU m bf ol s1).1.od.length≠s1.od.length:=of_decide_eq_true h4.symm;simp only[if_true];omega
  case stop=>
   rintro D cd pre W hD hSp ⟨rfl,hX⟩ hK;have HX2:=aa (ag hX hK);have e3:=(hX.en.cell 0).trans (show _=some (.bool false) from rfl);have hDW:D<W.heap.size:=(Array.getElem?_eq_some_iff.1 hK).1;have HT:=ae (T=(((pre.map (·.1)).foldl (aZ m bf ol) (s1,true)).1,false)) (by
    have h1:=HL.out.wf.gh;have h2:=HRun.out.1;obtain⟨f',rfl⟩:∃f',f=f'+1:=⟨f-1,by omega⟩;have h3:=HRun.out.2;have h4:=BH hSp hX.ok;rw[eH,h4] at h3;simp at h3;exact h3.symm)
   clear hX hK hSp;gi_wp2
   go_wp2;rw[Exit.noGoto_ret];refine qJ w.heap.size (D::Ds) W (fun D' hD'=>?_) (List.nodup_cons.2 ⟨fun h=>by have:=HDl.out D h;omega,HL.out.nd⟩) (fun D' hD'=>?_) (fun W' hb hkeep=>?_)
   ·rcases List.mem_cons.1 hD' with rfl|h
    ·exact HX2.out.2
    ·exact HX2.out.1.mks D' h
   ·rcases List.mem_cons.1 hD' with rfl|h
    ·omega
    ·exact(HL.out.lo D' h).1
   refine⟨_,results_tmp rfl _ _ _,?_⟩;obtain⟨R',vo',hF,hK⟩:=HX2.out.1.fl;rw[HT.out];refine⟨rfl,R',vo',hF.vj (fun k C t hk=>hkeep k (fun hD2=>?_)),hK.low hb⟩;have h9:W.heap[k]?=some (.deferred (some [])):=by
    rcases List.mem_cons.1 hD2 with rfl|h
    ·exact HX2.out.2
    ·exact HX2.out.1.mks k h
   rw[hk] at h9;cases h9
end
end Go.Proofs.YtlimollpocagiaaGreatDoor
