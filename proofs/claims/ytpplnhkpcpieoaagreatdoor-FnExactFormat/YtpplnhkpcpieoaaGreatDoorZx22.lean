/- The program's give: the next free block -/
import Derived.Test.YtpplnhkpcpieoaaGreatDoorZx16
import Derived.Test.YtpplnhkpcpieoaaGreatDoorZx17
namespace Go.Proofs.YtpplnhkpcpieoaaGreatDoor
open Go.Proofs.Tryz
open _root_.List (size_toArray length_cons length_nil push_toArray nil_append cons_append map_append getD range length)
set_option linter.all false
set_option maxRecDepth 100000
set_option maxHeartbeats 16000000
section
open Go.RowKit Go.Shelf
attribute [local go_sem] Oper.semAt_some
def ot(base b l r n cN:Nat)(R:Nat→Value)(LL:Nat→List Int)(vo:Value)(od:List (Nat×Nat))(o:Int)(w w':World)(e:Ending):Prop:=
 match fD (LL 1) (LL 0) cN with
 |some p=>e=.returned (.bool true)∧∃C' R' aF,Fl w' base b C' R' (lP LL l r p o) aF (od++[(l,r)]) (dg n p)∧cR w w' b R vo R' aF
 |none=>e=.returned (.bool false)∧Below w.heap.size w w'
theorem G6{base b l r n cN p:Nat}{R:Nat→Value}{LL:Nat→List Int}{vo:Value}{od:List (Nat×Nat)}{o:Int}{w w':World}{e:Ending}(h:fD (LL 1) (LL 0) cN=some p)(h2:e=.returned (.bool true)∧∃C' R' aF,Fl w' base b C' R' (lP LL l r p o) aF (od++[(l,r)]) (dg n p)∧cR w w' b R vo R' aF):ot base b l r n cN R LL vo od o w w' e:=by unfold ot;rw[h];exact h2
theorem G7{base b l r n cN:Nat}{R:Nat→Value}{LL:Nat→List Int}{vo:Value}{od:List (Nat×Nat)}{o:Int}{w w':World}{e:Ending}(h:fD (LL 1) (LL 0) cN=none)(h2:e=.returned (.bool false)∧Below w.heap.size w w'):ot base b l r n cN R LL vo od o w w' e:=by unfold ot;rw[h];exact h2
theorem zB(ws bf:List Int)(c:Nat):fD ws bf c=((kL ws c).find? (fun x=>decide (bf.getD x.toNat 0=0))).map Int.toNat:=by
 unfold fD kL jk nI;conv=>rhs;rw[List.find?_map,List.find?_filter,Option.map_map]
 have e:(Int.toNat∘fun b:Nat=>(b:Int))=id:=by funext b;simp
 rw[e,Option.map_id];simp[Function.comp_def]
theorem G8{α:Type}{q:α→Bool}{pre:List α}{x:α}{L:List α}(h:pre++[x]<+:L)(h1:∀y∈pre,q y=false)(h2:q x=true):L.find? q=some x:=by
 obtain⟨t,rfl⟩:=h;rw[List.append_assoc,List.find?_append,List.find?_eq_none.2 (fun y hy=>by rw[h1 y hy];decide)];simp[h2]
theorem Fl.fH{A B:World}{row:Option Nat}{z base b:Nat}{C:Array Value}{R:Nat→Value}{LL:Nat→List Int}{vo:Value}{od:List (Nat×Nat)}{cu:Int}(h:Fl A base b C R LL vo od cu)(hg:A.grownBy B row)(hr:∀r,row=some r→z≤r∧∃o,A.heap[r]?=some o∧o.isCells=false):Fl B base b C R LL vo od cu:=by
 have key:∀{k:Nat} {C:Array Value} {t:TypeId},A.heap[k]?=some (.cells C t (0,0))→B.heap[k]?=A.heap[k]?:=fun {k C t} hk=>by
  refine hg.block k (Array.getElem?_eq_some_iff.1 hk).1 (fun e=>?_);obtain⟨_,o,h1,h2⟩:=hr k e.symm;rw[hk] at h1;cases h1
  cases h2
 have OH:∀{base n sz:Nat} {e:TypeId} {v:Value} {xs:List Value},A.ownsRow base e sz v n xs→B.ownsRow base e sz v n xs:=fun {base n sz e v xs} ho=>eF ho (fun k hk=>by
  rcases ho.2 with⟨rfl,_⟩|⟨g,cap,cur,rfl,_,hgg,_⟩
  ·cases hk
  ·obtain rfl:g=k:=(by simpa [Value.ownBlock] using hk);exact key hgg)
 exact⟨(key h.box).trans h.box,h.at_,fun j hj=>OH (h.row j hj),h.apart,h.ord,OH h.cA,h.cur⟩
theorem cR.fH{w A B:World}{row:Option Nat}{z b:Nat}{R R':Nat→Value}{vo aF:Value}(h:cR w A b R vo R' aF)(hg:A.grownBy B row)(hr:∀r,row=some r→z≤r∧∃o,A.heap[r]?=some o∧o.isCells=false)(hz:w.heap.size≤z):cR w B b R vo R' aF:=
 ⟨hg.os.trans h.os,hg.tape.trans h.tape,hg.output.trans h.output,aK h.size hg.size,fun k hk hn=>(hg.block k (Nat.lt_of_lt_of_le hk h.size) (fun e=>by have:=(hr k e.symm).1;omega)).trans (h.block k hk hn),h.own⟩
theorem cR.keeps{w w':World}{base b:Nat}{C:Array Value}{R R':Nat→Value}{LL:Nat→List Int}{vo aF:Value}{od:List (Nat×Nat)}{cu:Int}(h:cR w w' b R vo R' aF)(hf:Fl w base b C R LL vo od cu)(z:Nat):KeepsFrom z w w':=by
 refine⟨h.size,fun k o _ hk ho=>(h.block k (Array.getElem?_eq_some_iff.1 hk).1 (fun hw=>?_)).trans hk⟩;have key:∀{C:Array Value} {t:TypeId},w.heap[k]?=some (.cells C t (0,0))→False:=fun {C t} h2=>by
  rw[hk] at h2;cases h2
  cases ho
 have OH:∀{base n sz:Nat} {e:TypeId} {v:Value} {xs:List Value},w.ownsRow base e sz v n xs→v.ownBlock=some k→False:=fun {base n sz e v xs} hr hv=>by
  rcases hr.2 with⟨rfl,_⟩|⟨g,cap,cur,rfl,_,hgg,_⟩
  ·cases hv
  ·obtain rfl:g=k:=(by simpa [Value.ownBlock] using hv);exact key hgg
 rcases hw with rfl|⟨j,hj,e⟩|e
 ·exact key hf.box
 ·exact OH (hf.row j hj) e
 ·exact OH hf.cA e
structure pT(w:World)(b l r n:Nat)(bf:List Int)(wv:Value)(pre:List Int)(W:World):Prop where
 old:Below w.heap.size w W
 ptr:af W w.heap.size #[.pointer (some ⟨b,0,none⟩)] 117
 spot:af W (w.heap.size+1) #[.int .i64 (l:Int),.int .i64 (r:Int)] 175
 res:af W (w.heap.size+2) #[.bool false] 4
 capt:Boxed W (w.heap.size+3) 45 wv
 none_:∀y∈pre,bf.getD y.toNat 0≠0
 size:w.heap.size+5≤W.heap.size
theorem pT.own{w:World}{b l r n:Nat}{bf:List Int}{wv:Value}{n₁:Nat}(hn:n₁=w.heap.size+5):OwnFrom n₁ (pT w b l r n bf wv):=by
 intro pre X Y row hs hg hr;have hb:∀k,k<n₁→Y.heap[k]?=X.heap[k]?:=fun k hk=>by
  have h1:=hs.size;exact hg.block k (by omega) (fun e=>by have:=(hr k e.symm).1;omega)
 exact⟨hs.old.grown hg hs.old.size (fun k e=>by have:=(hr k e).1;omega),(hb _ (by omega)).trans hs.ptr,(hb _ (by omega)).trans hs.spot,(hb _ (by omega)).trans hs.res,(hb _ (by omega)).trans hs.capt,hs.none_,aK hs.size hg.size⟩
structure rN(w:World)(base b l r n:Nat)(R:Nat→Value)(LL:Nat→List Int)(vo:Value)(od:List (Nat×Nat))(o:Int)(pre:List Int)(W:World):Prop where
 ex:∃pre' x,pre=pre'++[x]∧(∀y∈pre',(LL 0).getD y.toNat 0≠0)∧(LL 0).getD x.toNat 0=0∧∃C' R' aF,Fl W base b C' R' (lP LL l r x.toNat o) aF (od++[(l,r)]) (dg n (x.toNat:Int))∧cR w W b R vo R' aF
 res:af W (w.heap.size+2) #[.bool true] 4
 size:w.heap.size+5≤W.heap.size
theorem rN.own{w:World}{base b l r n:Nat}{R:Nat→Value}{LL:Nat→List Int}{vo:Value}{od:List (Nat×Nat)}{o:Int}{n₁:Nat}(hn:n₁=w.heap.size+5):OwnFrom n₁ (rN w base b l r n R LL vo od o):=by
 intro pre X Y row hs hg hr;obtain⟨pre',x,h1,h2,h3,C',R',aF,h4,h5⟩:=hs.ex;have h6:=hs.size;refine⟨⟨pre',x,h1,h2,h3,C',R',aF,h4.fH hg hr,h5.fH hg hr (by omega)⟩,(hg.block _ (by omega) (fun e=>by have:=(hr _ e.symm).1;omega)).trans hs.res,aK hs.size hg.size⟩
theorem zC{fn:Func}{p:Tmp}(h:fn.results=#[.cell p 4])(tmps:Array Value)(w:World)(g:Nat)(x:Bool)(hp:tmps.getD p undef=.pointer (some ⟨g,0,none⟩))(hg:af w g #[.bool x] 4):(results fn tmps).run prog w=.ok (.bool x) w:=by
 have hc:=(hg.cell 0).trans (show _=some (.bool x) from rfl);have hp':tmps[p]?.getD undef=.pointer (some ⟨g,0,none⟩):=by rw[←Array.getD_eq_getD_getElem?];exact hp
 simp only[results,h];go_simp
theorem G9(base b l r n cN:Nat)(C:Array Value)(R:Nat→Value)(LL:Nat→List Int)(vo:Value)(od:List (Nat×Nat))(w:World)(h:Fl w base b C R LL vo od (cN:Int))(hl:l<2)(hr:r≤700)(hnn:n=(LL 1).length)(hbf:(LL 0).length=n)(hc:2≤cN∧cN<n)(hn:n≤2048)(hL:(LL (5+l)).length≤100001)(hod:od.length≤1000)(hbs:base≤w.heap.size)(o:Int)(ho:o=(LL (2+l)).getD r 0)(ho2:0≤o∧o<n)(hwr:∀z∈LL 1,0≤z∧z<4294967296):
 Calls prog 102 #[.pointer (some ⟨b,0,none⟩),bh l r] w fun e w'=>ot base b l r n cN R LL vo od o w w' e:=by
 obtain⟨W0,hW0⟩:∃W0,W0=(((w.alloc (.cells #[.pointer (some ⟨b,0,none⟩)] 117)).alloc (.cells #[.int .i64 (l:Int),.int .i64 (r:Int)] 175)).alloc (.cells #[.bool false] 4)):=⟨_,rfl⟩;have hs0:W0.heap.size=w.heap.size+3:=by rw[hW0];simp
 have B0:=ae (Below w.heap.size w W0) (by rw[hW0];exact((ak.alloc aj _).alloc (by simp) _).alloc (by simp;omega) _);have K0:=ae (af W0 w.heap.size #[.pointer (some ⟨b,0,none⟩)] 117) (by rw[hW0];exact((af.new w _ _).alloc _).alloc _);have K1:=ae (af W0 (w.heap.size+1) #[.int .i64 (l:Int),.int .i64 (r:Int)] 175) (by rw[hW0];have h:=(af.new (w.alloc (.cells #[.pointer (some ⟨b,0,none⟩)] 117)) #[.int .i64 (l:Int),.int .i64 (r:Int)] 175).alloc (.cells #[.bool false] 4);simpa using h);have K2:=ae (af W0 (w.heap.size+2) #[.bool false] 4) (by rw[hW0];have h:=(af.new ((w.alloc (.cells #[.pointer (some ⟨b,0,none⟩)] 117)).alloc (.cells #[.int .i64 (l:Int),.int .i64 (r:Int)] 175)) #[.bool false] 4);simpa using h);have HW0:=aa hW0;have NB:=aa hs0;have F0:=aa (h.below B0.out);have HF:=aa h;have HH:=aa (ai hl (ai hr (ai hnn (ai hbf (ai hL (ai hod (ai hbs (ai ho hwr))))))));obtain⟨g,gc,NF,hg,x1,hx⟩:=HF.out.nh (by rw[←hnn];omega);rw[←hnn] at NF x1 hx;have hgl:g<w.heap.size:=((HF.out.row 1 (by omega)).lt g hg).2;have e1:=F0.out.at_ 1 (by omega);rw[NF] at e1;have HC:=ae (∀w',af w' b C 185→w'.cell? ⟨b,1,none⟩=some (.slice (some ⟨g,0,none⟩) n gc)∧w'.cell? ⟨b,9,none⟩=some (.int .i64 (cN:Int))) (fun w' hw=>⟨(hw.cell 1).trans e1,(hw.cell 9).trans F0.out.cur⟩);have HX:=aa hx;clear hW0 hs0 h hl hr hnn hL hod hbs ho hwr hbf NF hg x1 hx e1;obtain⟨W1,hW1⟩:∃W1,W1=(W0.drew.alloc (.cells #[.slice (some ⟨g,0,none⟩) n gc] 45)).alloc (.cells #[.int .i64 (cN:Int)] 3):=⟨_,rfl⟩;have hsz:W1.heap.size=w.heap.size+5:=by rw[hW1];simp[NB.out]
 have B1:=ae (Below W0.heap.size W0 W1) (by rw[hW1];exact((ak.drew).alloc aj _).alloc (by simp) _);have X2:=ae (Boxed W1 (w.heap.size+3) 45 (.slice (some ⟨g,0,none⟩) n gc)) (by rw[hW1, ←NB.out];exact(Boxed.new W0.drew _ _).alloc _);have X1:=ae (Boxed W1 (w.heap.size+4) 3 (.int .i64 (cN:Int))) (by
  have h:=Boxed.new (W0.drew.alloc (.cells #[.slice (some ⟨g,0,none⟩) n gc] 45)) 3 (.int .i64 (cN:Int));rw[World.size_alloc] at h;rw[hW1];have e:W0.drew.heap.size=w.heap.size+3:=NB.out;rw[e] at h;exact h)
 have HW1:=aa hW1;have Pt:=aa hsz;clear hW1;have hs0:=NB.out;have I0:=ae (pT w b l r n (LL 0) (.slice (some ⟨g,0,none⟩) n gc) [] W1) (⟨B0.out.trans (B1.out.mono (by omega)),K0.out.below B1.out K0.out.lt,K1.out.below B1.out K1.out.lt,K2.out.below B1.out K2.out.lt,X2.out,(fun y hy=>by cases hy),by omega⟩);clear hs0;refine(callsIn_wide (n:=6)).1 ?_;refine callsIn_of_wp_marks func102 rfl trivial ?_ rfl;simp only[ntmps102,size_toArray,length_cons,length_nil,Nat.reduceAdd,Nat.reduceSub,Array.replicate_succ,Array.replicate_zero,push_toArray,List.append_toArray,nil_append,cons_append];unfold bh;gi_upto_region 1 with fail
 rw[←HW0.out];refine wpIn_wide.2 ?_;refine bg (fun w'=>af w' w.heap.size #[.pointer (some ⟨b,0,none⟩)] 117∧af w' b C 185) ⟨K0.out,F0.out.box⟩ fun hH=>?_;refine ah 0 (.pointer (some ⟨b,0,none⟩)) rfl hH ?_ (aH fun w' hw'=>by have hc:=(af.cell hw'.1 0).trans (show _=some (.pointer (some ⟨b,0,none⟩)) from rfl);clear hw';go_simp);refine ah 1 (.pointer (some ⟨b,0,none⟩)) rfl hH ?_;refine ah 2 (.pointer (some ⟨b,1,none⟩)) rfl hH ?_;refine ah 3 (.slice (some ⟨g,0,none⟩) n gc) rfl hH ?_ (aH fun w' hw'=>by have hc:=(HC.out w' hw'.2).1;clear hw';go_simp);refine ah 4 (.pointer (some ⟨b,0,none⟩)) rfl hH ?_ (aH fun w' hw'=>by have hc:=(af.cell hw'.1 0).trans (show _=some (.pointer (some ⟨b,0,none⟩)) from rfl);clear hw';go_simp);refine ah 5 (.pointer (some ⟨b,0,none⟩)) rfl hH ?_;refine ah 6 (.pointer (some ⟨b,9,none⟩)) rfl hH ?_;refine ah 7 (.int .i64 (cN:Int)) rfl hH ?_ (aH fun w' hw'=>by have hc:=(HC.out w' hw'.2).2;clear hw';go_simp);refine aG 8 rfl fun K hK=>?_;go_simp;refine(callsIn_wide.1 (Gy 0 (.slice (some ⟨g,0,none⟩) n gc) (cN:Int) W0.drew (some ⟨g,0,none⟩) n gc rfl)).mono ?_;rintro e w' ⟨rfl,rfl⟩;rw[←HW1.out,show W0.drew.heap.size=w.heap.size+3 from NB.out];refine hK.out _ _ ⟨K0.out.below B1.out K0.out.lt,F0.out.box.below B1.out F0.out.box.lt⟩ (fun hH=>?_);clear hK K;try simp only[Act.put,av,ay,az,aA,aB,aC]
 refine aV ?_;clear hH;gi_wp2
 have hX2:=ae (Boxed W1 (w.heap.size+3) 45 (.slice (some ⟨g,0,none⟩) (LL 1).length gc)∧∀i,i<(LL 1).length→W1.cell? ⟨g,0+i,none⟩=some (.int .i64 ((LL 1).getD i 0))) (by
  have hn1:=HH.out.2.2.1;refine⟨by rw[←hn1];exact X2.out,fun i hi=>?_⟩;rw[Nat.zero_add];exact(I0.out.old.cell (p:=⟨g,i,none⟩) hgl).trans (HX.out i (by rw[hn1];exact hi)).1)
 have hmx:prog.follows .mixedOrders=true:=by kernel_rfl
 refine wpIn_rangeFunc_ownG rfl (by omega) (gf:=151) (lb:=#[.pointer (some ⟨w.heap.size+3+1,0,none⟩),.pointer (some ⟨w.heap.size+3,0,none⟩)]) rfl trivial (enters_of func151 (by kernel_rfl) rfl)
  (Gz 5 (by omega) (w.heap.size+4) (w.heap.size+3) w.heap.size (LL 1) cN g 0 gc (by omega) (by have:=HH.out.2.2.1;omega) (by have:=HH.out.2.2.1;omega) hgl W1 (by omega) X1.out hX2.out.1 hX2.out.2) Kf.trans (GA (by omega) (by omega)) ak (fun _=>rfl)
  (fun pre W=>pT w b l r n (LL 0) (.slice (some ⟨g,0,none⟩) n gc) (pre.map (·.1)) W) (fun cd pre W=>cd=.ret∧rN w base b l r n R LL vo od o (pre.map (·.1)) W)
  (by rw[hsz];intro pre X Y row hs hg hr;exact pT.own rfl _ X Y row hs hg hr) (by rw[hsz];rintro cd pre X Y row ⟨h1,h2⟩ hg hr;exact⟨h1,rN.own rfl _ X Y row h2 hg hr⟩) I0.out
  (fun x=>{tmps:=#[.pointer (some ⟨b,0,none⟩),.agg #[.int .i64 (l:Int),.int .i64 (r:Int)],.pointer (some ⟨w.heap.size,0,none⟩),.pointer (some ⟨w.heap.size+1,0,none⟩),.pointer (some ⟨w.heap.size+1+1,0,none⟩),.int .i64 x.1,.pointer (some ⟨b,0,none⟩),.pointer (some ⟨b,0,none⟩),.pointer (some ⟨b,1,none⟩),.slice (some ⟨g,0,none⟩) n gc,.pointer (some ⟨b,0,none⟩),.pointer (some ⟨b,0,none⟩),.pointer (some ⟨b,9,none⟩),.int .i64 (cN:Int),.func (.func 151) #[] #[.pointer (some ⟨w.heap.size+3+1,0,none⟩),.pointer (some ⟨w.heap.size+3,0,none⟩)],.int .i64 x.1,undef,undef,undef,undef,undef,undef,undef,undef,undef,undef,undef,undef],defers:=[]}) ?assign ?body ?done ?stop
 case assign=>
  intro l' x W K hK;gi_wp2
  exact hK
 case body=>
  rintro l' pre x W hI hlt;have hx:=x.2;have hx3:x.1<(n:Int):=by rw[HH.out.2.2.1];exact hx.2
  obtain⟨p,hp0⟩:∃p:Nat,x.1=(p:Int):=⟨x.1.toNat,by omega⟩;have hp:2≤p∧p<n:=by omega
  clear hx hx3;simp only[hp0];have Ti:=aa hp0;clear hp0;have cP:=(hI.ptr.cell 0).trans (show _=some (.pointer (some ⟨b,0,none⟩)) from rfl);obtain⟨a0,c0,e0r,e0,hr0⟩:=HF.out.rd 0 (by omega);rw[HH.out.2.2.2.1] at e0 hr0;have YV:=aa (HF.out.below hI.old);obtain⟨b0,Tv,c0',ea,hb0,_,_,hcl⟩:=hr0.dJ (by rw[HH.out.2.2.2.1];omega);injection ea with ea1 ea2 ea3;subst ea1;subst ea3;have cB:W.cell? ⟨b,0,none⟩=some (.slice (some ⟨b0,Tv,none⟩) n c0):=(YV.out.box.cell 0).trans e0;have cX:W.cell? ⟨b0,Tv+p,none⟩=some (.int .i64 ((LL 0).getD p 0)):=(hI.old.cell (p:=⟨b0,Tv+p,none⟩) hb0).trans (hcl p (by rw[HH.out.2.2.2.1];exact hp.2));have HI:=aa hI;have rS:=aa (jF hI.spot);obtain⟨z,hz⟩:∃z,z=(LL 0).getD p 0:=⟨_,rfl⟩;rw[←hz] at cX;have HZ:=aa hz;clear e0r e0 hr0 hcl ea2 hb0 hI hz hlt;by_cases hz0:z=0
  ·have hzb:(z==0)=true:=(by simpa using hz0);gi_wp2_with (first|(refine lJ rfl 175 _ rfl (w.heap.size+1) 0 rfl [.int .i64 (l:Int),.int .i64 (r:Int)] _ rS.out underlying175 rfl bZ ?_)|(refine⟨trivial,?_⟩;gi_at_call 138;fail))
   refine⟨trivial,?_⟩;refine(CallsIn.inRound l' (callsIn_wide.2 (Gw base b l r p C R LL vo od (cN:Int) W YV.out HH.out.1 HH.out.2.1 n HH.out.2.2.1 hp hn HH.out.2.2.2.2.1 HH.out.2.2.2.2.2.1 (aK HH.out.2.2.2.2.2.2.1 HI.out.old.size) o HH.out.2.2.2.2.2.2.2.1 ho2 HH.out.2.2.2.2.2.2.2.2))).mono ?_;rintro e W2 ⟨rfl,C',R',aF,hF2,hk2⟩;have hno:¬j7 b R vo (w.heap.size+2):=fun ho=>(by have:=HF.out.lt ho;omega);have hrs:af W2 (w.heap.size+2) #[.bool false] 4:=(hk2.block _ HI.out.res.lt hno).trans HI.out.res;have c4:=(hrs.cell 0).trans (show _=some (.bool false) from rfl);have f4:=hrs.frozen 0;have hkW:cR w W2 b R vo R' aF:=(cR.cV b R vo HI.out.old).trans hk2;have hsF:¬j7 b R' aF (w.heap.size+2):=fun ho=>by
    rcases hk2.own _ ho with h5|h5
    ·exact hno h5
    ·have:=HI.out.res.lt;omega
   have HD:=aa (ai hF2 (ai hk2 (ai hkW (ai hrs hsF))));clear hF2 hk2 hkW hno hrs hsF;gi_wp2
   have hcell:∀k,k≠w.heap.size+2→(W2.setCell ⟨w.heap.size+2,0,none⟩ (.bool true)).heap[k]?=W2.heap[k]?:=fun k hk=>Below.heap_setCell W2 ⟨w.heap.size+2,0,none⟩ _ k (fun e=>hk e);have OO:Fl (W2.setCell ⟨w.heap.size+2,0,none⟩ (.bool true)) base b C' R' (lP LL l r p o) aF (od++[(l,r)]) (dg n p):=
    ⟨(hcell b (fun e=>HD.out.2.2.2.2 (.inl e.symm))).trans HD.out.1.box,HD.out.1.at_,fun j hj=>eF (HD.out.1.row j hj) (fun k hk=>hcell k (fun e=>HD.out.2.2.2.2 (.inr (.inl ⟨j,hj,by rw[hk,e]⟩)))),HD.out.1.apart,HD.out.1.ord,eF HD.out.1.cA (fun k hk=>hcell k (fun e=>HD.out.2.2.2.2 (.inr (.inr (by rw[hk,e]))))),HD.out.1.cur⟩
   have hk3:cR w (W2.setCell ⟨w.heap.size+2,0,none⟩ (.bool true)) b R vo R' aF:=⟨HD.out.2.2.1.os,HD.out.2.2.1.tape,HD.out.2.2.1.output,by simp[HD.out.2.2.1.size],fun k hk hn=>(hcell k (by omega)).trans (HD.out.2.2.1.block k hk hn),HD.out.2.2.1.own⟩;refine⟨(HD.out.2.1.keeps YV.out _).trans ((KeepsOthers.setCell _ _ _).from _),rfl,⟨⟨pre.map (·.1),x.1,by simp,HI.out.none_,by rw[Ti.out,Int.toNat_natCast, ←HZ.out];exact hz0,C',R',aF,?_,hk3⟩,HD.out.2.2.2.1.set 0 _,by have:=HI.out.size;have:=HD.out.2.1.size;simp;omega⟩⟩;rw[Ti.out,Int.toNat_natCast];exact OO
  ·have hzb:(z==0)=false:=(by simpa using hz0);gi_wp2
   refine⟨KeepsFrom.refl _ _,⟨ak,rfl⟩,⟨HI.out.old,HI.out.ptr,HI.out.spot,HI.out.res,HI.out.capt,fun y hy=>?_,HI.out.size⟩⟩;rw[map_append,List.mem_append] at hy;rcases hy with hy|hy
   ·exact HI.out.none_ y hy
   ·have e:y=x.1:=(by simpa using hy);rw[e,Ti.out,Int.toNat_natCast, ←HZ.out];exact hz0
 case done=>
  rintro D ys W hD hys hI hK;rw[Pt.out] at hD;have Qf:=ae (fD (LL 1) (LL 0) cN=none) (by
   rw[zB, ←hys,Option.map_eq_none_iff,List.find?_eq_none];intro x hx;simpa using hI.none_ x hx)
  have HI:=aa (ai hI hK);have c4:=(hI.res.cell 0).trans (show _=some (.bool false) from rfl);have f4:=hI.res.frozen 0;clear hI hK hys;gi_wp2
  have hD2:(W.setCell ⟨w.heap.size+2,0,none⟩ (.bool false)).heap[D]?=some (.deferred (some [])):=(KeepsOthers.setCell _ _ _).same _ _ HI.out.2 rfl;have hb2:Below w.heap.size w (W.setCell ⟨w.heap.size+2,0,none⟩ (.bool false)):=HI.out.1.old.setCell (p:=⟨w.heap.size+2,0,none⟩) (by show w.heap.size≤w.heap.size+2;omega) _;refine⟨by simp,.inl ⟨_,_,rfl,run_takeDeferred hD2,?_⟩⟩;refine⟨_,zC rfl _ _ (w.heap.size+2) false rfl (gY _ (HI.out.1.res.set 0 (.bool false)) hD2 rfl),G7 Qf.out ⟨rfl,?_⟩⟩;exact hb2.trans (belowK_b (w:=w) aj _ D _ (.deferred none) (by omega) hD2 rfl rfl)
 case stop=>
  rintro D cd pre W hD hSp ⟨rfl,hX⟩ hK;rw[Pt.out] at hD;obtain⟨pre',x,h1,h2,h3,C',R',aF,h4,h5⟩:=hX.ex;have Qf:=ae (fD (LL 1) (LL 0) cN=some x.toNat) (by
   rw[zB,G8 (x:=x) (pre:=pre') (by rw[←h1];exact hSp) (fun y hy=>by simpa using h2 y hy) (by simpa using h3)];rfl)
  have HI:=aa (ai hX (ai hK (ai h4 h5)));clear hX hK hSp h1 h2 h3 h4 h5;gi_wp2
  refine⟨by simp,.inl ⟨_,_,rfl,run_takeDeferred HI.out.2.1,?_⟩⟩;refine⟨_,zC rfl _ _ (w.heap.size+2) true rfl (gY _ HI.out.1.res HI.out.2.1 rfl),G6 Qf.out ⟨rfl,C',R',aF,?_,?_⟩⟩
  ·exact HI.out.2.2.1.fH (z:=0) (grownBy_putObj' _ _ _) (fun r e=>by cases e;exact⟨Nat.zero_le _,_,HI.out.2.1,rfl⟩)
  ·exact HI.out.2.2.2.fH (z:=w.heap.size) (grownBy_putObj' _ _ _) (fun r e=>by cases e;exact⟨by omega,_,HI.out.2.1,rfl⟩) aj
end
section
open Go.RowKit Go.Shelf
attribute [local go_sem] Oper.semAt_some
def aR(m k:Nat):Nat×Nat:=if k<m then(0,k) else(1,0)
structure jH(m:Nat)(bf ol:List Int)(LL:Nat→List Int)(od:List (Nat×Nat))(s:FD):Prop where
 ws:LL 1=s.ws
 bf:LL 0=bf
 g0:∀k,k<m→(LL 5).getD k 0=s.pl.getD k 0
 g0l:(LL 5).length≤m
 g1:(LL 6).getD 0 0=s.pl.getD m 0
 g1l:(LL 6).length≤1
 o0:∀k,k<m→(LL 2).getD k 0=ol.getD k 0
 o1:(LL 3).getD 0 0=ol.getD m 0
 od:od=s.od.map (aR m)
theorem zD{L:List Int}{k:Nat}(h:L.length≤k):L.getD k 0=0:=by simp[getD,List.getElem?_eq_none h]
theorem jH.given{m:Nat}{bf ol:List Int}{LL:Nat→List Int}{od:List (Nat×Nat)}{s:FD}(h:jH m bf ol LL od s){k:Nat}(hk:k<m+1):(LL (5+(aR m k).1)).getD (aR m k).2 0=s.pl.getD k 0:=by
 unfold aR;split
 ·rename_i hm;exact h.g0 k hm
 ·have:k=m:=by omega
  subst this;exact h.g1
theorem jH.was{m:Nat}{bf ol:List Int}{LL:Nat→List Int}{od:List (Nat×Nat)}{s:FD}(h:jH m bf ol LL od s){k:Nat}(hk:k<m+1):(LL (2+(aR m k).1)).getD (aR m k).2 0=ol.getD k 0:=by
 unfold aR;split
 ·rename_i hm;exact h.o0 k hm
 ·have:k=m:=by omega
  subst this;exact h.o1
theorem jH.He{m:Nat}{bf ol:List Int}{LL:Nat→List Int}{od:List (Nat×Nat)}{s:FD}(h:jH m bf ol LL od s)(hm:m≤140){k:Nat}(hk:k<m+1):jE LL (aR m k).1 (aR m k).2=fE m bf ol s k:=by
 unfold jE fE;rw[h.given hk,h.was hk];by_cases hkm:k<m
 ·rw[if_pos hkm,show(aR m k)=(0,k) by unfold aR;rw[if_pos hkm],if_pos rfl,h.ws,h.bf]
 ·rw[if_neg hkm,show(aR m k)=(1,0) by unfold aR;rw[if_neg hkm],if_neg (by decide)];congr 2;rw[Bool.eq_iff_iff];unfold ja gh;simp only[decide_eq_true_eq,List.any_eq_true,List.mem_range,Bool.and_eq_true];constructor
  ·intro hne;refine Classical.byContradiction fun hno=>hne ?_;apply List.ext_getElem (by simp);intro i h1 h2;simp only[List.length_map,List.length_range] at h1;simp only[List.getElem_map,List.getElem_range,List.getElem_replicate];show(LL 5).getD (bI 0 0 i) 0=0;have e:bI 0 0 i=12+i:=(by unfold bI;simp);rw[e];rcases Nat.lt_or_ge (12+i) m with h3|h3
   ·rw[h.g0 _ h3];refine Classical.byContradiction fun h4=>hno ⟨12+i,h3,by omega,h4⟩
   ·exact zD (aK h.g0l h3)
  ·rintro ⟨j,hj,hj2,Py⟩ he;have h1:=congrArg (fun l=>l.getD (j-12) 0) he;have hjl:j-12<128:=(by omega);simp only[getD,List.getElem?_map,List.getElem?_range hjl,Option.map_some,Option.getD_some,List.getElem?_replicate,if_pos hjl] at h1;have e:bI 0 0 (j-12)=j:=(by unfold bI;simp;omega);rw[e] at h1;exact Py ((h.g0 j hj).symm.trans h1)
theorem nj(L:List Int)(r j:Nat)(x:Int):(dD L r x).getD j 0=if j=r then x else L.getD j 0:=by
 unfold dD;rw[qx _ _ _ _ (by rw[List.length_append,List.length_replicate];omega)];split
 ·rfl
 ·rcases Nat.lt_or_ge j L.length with h|h
  ·simp[getD,List.getElem?_append_left h]
  ·rw[zD h];simp only[getD];rw[List.getElem?_append_right h,List.getElem?_replicate];split<;>rfl
theorem jH.move{m n:Nat}{bf ol:List Int}{LL:Nat→List Int}{od:List (Nat×Nat)}{s:FD}(h:jH m bf ol LL od s)(hpn:s.pl.length=m+1){k p:Nat}(hk:k<m+1):jH m bf ol (lP LL (aR m k).1 (aR m k).2 p (ol.getD k 0)) (od++[aR m k]) (gC ol s k p):=by
 have hpl:∀j,(gC ol s k p).pl.getD j 0=if j=k then(p:Int) else s.pl.getD j 0:=fun j=>qx _ _ _ _ (by omega);by_cases hkm:k<m
 ·have e:aR m k=(0,k):=by unfold aR;rw[if_pos hkm]
  rw[e];show jH m bf ol (aO (aO LL 5 (dD (LL 5) k (p:Int))) 1 (fO ((LL 1).set p 1) (ol.getD k 0))) (od++[(0,k)]) (gC ol s k p);refine⟨?_,?_,fun j hj=>?_,?_,?_,?_,fun j hj=>?_,?_,?_⟩
  ·rw[bY,h.ws];rfl
  ·rw[aU _ _ _ _ (by omega),aU _ _ _ _ (by omega)];exact h.bf
  ·rw[aU _ _ _ _ (by omega),bY,nj,hpl j,h.g0 j hj]
  ·rw[aU _ _ _ _ (by omega),bY,nY];have:=h.g0l;show max (LL 5).length (k+1)≤m;omega
  ·rw[aU _ _ _ _ (by omega),aU _ _ _ _ (by omega),h.g1,hpl m,if_neg (by omega)]
  ·rw[aU _ _ _ _ (by omega),aU _ _ _ _ (by omega)];exact h.g1l
  ·rw[aU _ _ _ _ (by omega),aU _ _ _ _ (by omega)];exact h.o0 j hj
  ·rw[aU _ _ _ _ (by omega),aU _ _ _ _ (by omega)];exact h.o1
  ·show od++[(0,k)]=(s.od++[k]).map (aR m);rw[map_append,h.od,List.map_singleton,e]
 ·have e:aR m k=(1,0):=by unfold aR;rw[if_neg hkm]
  have hkk:k=m:=by omega
  rw[e];show jH m bf ol (aO (aO LL 6 (dD (LL 6) 0 (p:Int))) 1 (fO ((LL 1).set p 1) (ol.getD k 0))) (od++[(1,0)]) (gC ol s k p);refine⟨?_,?_,fun j hj=>?_,?_,?_,?_,fun j hj=>?_,?_,?_⟩
  ·rw[bY,h.ws];rfl
  ·rw[aU _ _ _ _ (by omega),aU _ _ _ _ (by omega)];exact h.bf
  ·rw[aU _ _ _ _ (by omega),aU _ _ _ _ (by omega),h.g0 j hj,hpl j,if_neg (by omega)]
  ·rw[aU _ _ _ _ (by omega),aU _ _ _ _ (by omega)];exact h.g0l
  ·rw[aU _ _ _ _ (by omega),bY,nj,hpl m,if_pos rfl,if_pos hkk.symm]
  ·rw[aU _ _ _ _ (by omega),bY,nY];have:=h.g1l;show max (LL 6).length (0+1)≤1;omega
  ·rw[aU _ _ _ _ (by omega),aU _ _ _ _ (by omega)];exact h.o0 j hj
  ·rw[aU _ _ _ _ (by omega),aU _ _ _ _ (by omega)];exact h.o1
  ·show od++[(1,0)]=(s.od++[k]).map (aR m);rw[map_append,h.od,List.map_singleton,e]
abbrev j9(m:Nat):={k:Nat//k∈cE m}
def mD{m:Nat}(x:j9 m):Array Value:=#[.agg #[.int .i64 ((aR m x.1).1:Int),.int .i64 ((aR m x.1).2:Int)]]
theorem zE(b g n gc:Nat)(w:World)(h:w.cell? ⟨b,1,none⟩=some (.slice (some ⟨g,0,none⟩) n gc))(hn:n≤2048):
 Calls prog 107 #[.pointer (some ⟨b,0,none⟩)] w fun e w'=>e=.returned (.int .i64 (4*(n:Int)))∧w'=w:=by
 go_enter func107,ntmps107;go_wp2;go_ret;exact⟨rfl,rfl⟩
theorem zF(n b:Nat)(w:World):CallsIn Fence.wide n prog 100 #[.pointer (some ⟨b,0,none⟩)] w fun e w'=>e=.returned (.func (.func 135) #[] #[.pointer (some ⟨w.heap.size,0,none⟩)])∧w'=w.alloc (.cells #[.pointer (some ⟨b,0,none⟩)] 117):=by
 refine callsIn_of_wp func100 rfl trivial ?_ rfl;simp only[ntmps100,size_toArray,length_cons,length_nil,Nat.reduceAdd,Nat.reduceSub,Array.replicate_succ,Array.replicate_zero,push_toArray,List.append_toArray,nil_append,cons_append];gi_wp2
 go_ret;exact⟨rfl,rfl⟩
theorem Hf{m:Nat}{pre:List (j9 m)}{k:Nat}(h:pre.map (·.1)=range k)(hk:k<m):∃x:j9 m,x.1=k∧(pre++[x]).map (·.1)=range (k+1)∧(pre++[x]).map (·.1)<+:cE m:=by
 have hm:k∈cE m:=by unfold cE;exact List.mem_append_left _ (List.mem_range.2 hk)
 have e:(pre++[(⟨k,hm⟩:j9 m)]).map (·.1)=range (k+1):=by rw[map_append,h,List.range_succ];rfl
 refine⟨⟨k,hm⟩,rfl,e,?_⟩;rw[e];unfold cE;refine List.IsPrefix.trans ?_ (List.prefix_append _ _);rw[List.prefix_iff_eq_take,List.length_range,List.take_range,Nat.min_eq_left (by omega)]
theorem Hg(n':Nat)(hn':1≤n')(l X b g n gc m:Nat)(hm:m=(n+127)/128)(hn:n≤2048)(J Jx:List (j9 m)→World→Prop)
 (hY:∀pre x W,J pre W→pre.length<(cE m).length→YieldAt Fence.wide (n'-1) prog l (mD x) W fun e W'=>
  (e=.returned (.bool true)∧J (pre++[x]) W'∧True)∨(e=.returned (.bool false)∧Jx (pre++[x]) W'))
 (W:World) (hX:Boxed W X 117 (.pointer (some ⟨b,0,none⟩))) (hw:W.cell? ⟨b,1,none⟩=some (.slice (some ⟨g,0,none⟩) n gc)) (h0:J [] W):
 CallsIn Fence.wide n' prog 135 #[.func (.yield l) #[] #[],.pointer (some ⟨X,0,none⟩)] W fun e W'=>(∃v,e=.returned v)∧
  ((∃ys:List (j9 m),ys.map (·.1)=cE m∧J ys W')∨(∃pre:List (j9 m),pre.map (·.1)<+:cE m∧Jx pre W')):=by
 have HY:=aa hY;have H0:=aa h0;have c1:=hX.cell;have HW:=aa hw;have HM:=aa hm;have hm2:m≤16:=by omega
 clear hY h0 hX hw hm;refine callsIn_of_wp func135 rfl trivial ?_ rfl;simp only[ntmps135,size_toArray,length_cons,length_nil,Nat.reduceAdd,Nat.reduceSub,Array.replicate_succ,Array.replicate_zero,push_toArray,List.append_toArray,nil_append,cons_append];gi_wp2_with (first
  |(refine⟨trivial,?_⟩;gi_at_call 107;refine(callsIn_wide.2 (zE b g n gc _ HW.out hn)).mono ?_;rintro e w0 ⟨rfl,hw0⟩;rw[hw0];clear hw0 w0)
  |(refine⟨trivial,?_⟩;gi_at_call 136;fail))
 refine⟨trivial,?_⟩;refine(callsIn_wide.2 (tK (4*(n:Int)) _)).mono ?_;rintro e w0 ⟨⟨y,rfl,hy⟩,hw0⟩;rw[←hw0];have hy2:=hy (by omega) (by omega);have hym:y=(m:Int):=by rw[hy2,HM.out];omega
 subst hym;clear hw0 w0 hy hy2;gi_wp2
 clear c1;gi_loopw [9] (fun i wr=>∃(k:Nat) (pre:List (j9 m)),k≤m∧i=.int .i64 (k:Int)∧Hid (pre.map (·.1)=range k∧J pre wr)) (fun i _=>m-(intOf i).toNat)
 case atStart=>exact⟨0,[],by omega,rfl,aa ⟨rfl,H0.out⟩⟩
 case round=>
  obtain⟨k,pre,hk,rfl,HI⟩:=hrel;have hpl:pre.length=k:=by have:=congrArg length HI.out.1;simpa using this
  by_cases hlt:k<m
  ·have N4:(k:Int)<(m:Int):=(by omega);obtain⟨x,hx,hx1,hx2⟩:=Hf HI.out.1 hlt;have HX:=aa (ai hx1 hx2);have Vw:=HY.out pre x wr HI.out.2 (by have:=hx2.length_le;simp at this;omega);have he:mD x=#[.agg #[.int .i64 0,.int .i64 (k:Int)]]:=(by unfold mD aR;rw[hx,if_pos hlt];rfl);rw[he] at Vw;obtain⟨fn,tmps,assign,body,hy,hR⟩:=Vw;have HR:=aa hR;clear hR hx1 hx2 hpl he hx;gi_wp2
   refine HR.out.mono ?_;rintro e W3 (⟨rfl,hJ3,_⟩|⟨rfl,hJx3⟩)
   ·have H3:=aa hJ3;clear hJ3 HR;gi_wp2
    go_roundw
    case rel=>exact⟨k+1,_,by omega,by go_num,aa ⟨HX.out.1,H3.out⟩⟩
    case measure=>simp[intOf];omega
   ·have H3:=aa hJx3;clear hJx3 HR;gi_wp2
    refine bodyPost_ret (results_none rfl _ _ _) rfl ?_;exact⟨⟨_,rfl⟩,.inr ⟨_,HX.out.2,H3.out⟩⟩
  ·have ek:k=m:=(by omega);subst ek;by_cases h12:12<k
   ·have Tn:(12:Int)<(k:Int):=(by omega);have hmem:k∈cE k:=(by unfold cE;rw[if_pos h12];simp);have hall:(pre++[(⟨k,hmem⟩:j9 k)]).map (·.1)=cE k:=(by rw[map_append,HI.out.1];exact(show cE k=range k++[k] by unfold cE;rw[if_pos h12]).symm);have Vw:=HY.out pre ⟨k,hmem⟩ wr HI.out.2 (by have:=congrArg length hall;simp at this;omega);have he:mD (⟨k,hmem⟩:j9 k)=#[.agg #[.int .i64 1,.int .i64 0]]:=(by unfold mD aR;rw[if_neg (by omega)];rfl);rw[he] at Vw;obtain⟨fn,tmps,assign,body,hy,hR⟩:=Vw;have HR:=aa hR;have HA:=aa hall;clear hR hall he hpl;gi_wp2
    refine HR.out.mono ?_;rintro e W3 (⟨rfl,hJ3,_⟩|⟨rfl,hJx3⟩)
    ·have H3:=aa hJ3;clear hJ3 HR;gi_wp2
     go_end0;exact⟨⟨_,rfl⟩,.inl ⟨_,HA.out,H3.out⟩⟩
    ·have H3:=aa hJx3;clear hJx3 HR;gi_wp2
     go_end0;exact⟨⟨_,rfl⟩,.inr ⟨_,by rw[HA.out];exact List.prefix_refl _,H3.out⟩⟩
   ·have Tn:¬(12:Int)<(k:Int):=(by omega);have HA:=ae (pre.map (·.1)=cE k) (by rw[HI.out.1];exact(show cE k=range k by unfold cE;rw[if_neg h12,List.append_nil]).symm);gi_wp2
    go_end0;exact⟨⟨_,rfl⟩,.inl ⟨_,HA.out,HI.out.2⟩⟩
theorem zG(n':Nat)(hn':1≤n')(X b g n gc m:Nat)(hm:m=(n+127)/128)(hn:n≤2048)(w:World)(hX:Boxed w X 117 (.pointer (some ⟨b,0,none⟩)))(hw:w.cell? ⟨b,1,none⟩=some (.slice (some ⟨g,0,none⟩) n gc)):
 SeqStopsK Fence.wide n' prog 135 #[.pointer (some ⟨X,0,none⟩)] (fun x:j9 m=>mD x) (fun _ _=>True) (fun ys=>ys.map (·.1)=cE m) (fun pre=>pre.map (·.1)<+:cE m) (cE m).length w:=fun l J Jx W hW _ _ hY h0=>
 Hg n' hn' l X b g n gc m hm hn J Jx hY W ((hW.block X hX.lt).trans hX) ((hW.cell (eu hw)).trans hw) h0
end
section
open Go.RowKit Go.Shelf
attribute [local go_sem] Oper.semAt_some
def kY(Ds:List Nat)(W:World):Prop:=∀D∈Ds,W.heap[D]?=some (.deferred (some []))
def zH(Ds:List Nat):List Deferred:=Ds.map fun D=>{target:=.collected D,args:=#[]}
theorem kY.keep{Ds:List Nat}{W W':World}(h:kY Ds W)(hk:KeepsOthers W W'):kY Ds W':=fun D hD=>hk.same D _ (h D hD) rfl
theorem kY.grown{Ds:List Nat}{W W':World}{row:Option Nat}{B:Nat}(h:kY Ds W)(hl:∀D∈Ds,D<B)(hg:W.grownBy W' row)(hr:∀r,row=some r→B≤r):kY Ds W':=fun D hD=>
 (hg.block D (Array.getElem?_eq_some_iff.1 (h D hD)).1 (fun e=>by have:=hr D e.symm;have:=hl D hD;omega)).trans (h D hD)
theorem uP{F:Fence}{n:Nat}{P:Program}{fn:Func}{tmps:Array Value}{R:Ending→World→Prop}(m:Nat):∀(Ds:List Nat) (W:World),kY Ds W→Ds.Nodup→(∀D∈Ds,m≤D)→(∀W',Below m W W'→(∀k,k∉Ds→W'.heap[k]?=W.heap[k]?)→LeavesIn F n P fn tmps R [] .returning W')→LeavesInM F n P fn tmps R (zH Ds) .returning W
 |[],W,_,_,_,h=>h W ak (fun _ _=>rfl)
 |D::Ds,W,hM,hN,hl,h=>by
  have hD:=hM D (by simp);have hlt:D<W.heap.size:=(Array.getElem?_eq_some_iff.1 hD).1;refine⟨by simp,.inl ⟨D,W.putObj D (.deferred none),rfl,run_takeDeferred hD,uP m Ds _ (fun D' h'=>?_) (List.nodup_cons.1 hN).2 (fun D' h'=>hl D' (by simp[h'])) (fun W' hb hk=>h W' ?_ (fun k hk'=>?_))⟩⟩
  ·refine(World.putObj_heap_other (fun e=>?_)).trans (hM D' (by simp[h']));subst e;exact(List.nodup_cons.1 hN).1 h'
  ·exact((Below.refl m W).grown (grownBy_putObj' W D _) (aK (hl D (by simp)) (Nat.le_of_lt hlt)) (fun k e=>by cases e;exact hl D (by simp))).trans hb
  ·simp only[List.mem_cons,not_or] at hk';exact(hk k hk'.2).trans (World.putObj_heap_other hk'.1)
end
end Go.Proofs.YtpplnhkpcpieoaaGreatDoor
