/- The program lists a tree's blocks: list -/
import Derived.Test.YtbhpealglhkodaaGreatDoorXc17
namespace Go.Proofs.YtbhpealglhkodaaGreatDoor
set_option linter.all false
set_option maxRecDepth 100000
set_option maxHeartbeats 16000000
section
open Go.RowKit Go.Shelf
attribute [local go_sem] Oper.semAt_some
theorem thenT_len(a b:TL):(thenT a b).1.length≤a.1.length+b.1.length:=by
 unfold thenT;split
 ·omega
 ·simp
theorem allT_len(m:Nat):∀(L:List TL),(∀a∈L,a.1.length≤m)→(allT L).1.length≤L.length*m
 |[],_=>by simp[allT]
 |a::L,h=>by
  have h1:=allT_len m L (fun x hx=>h x (by simp[hx]));have h2:=h a (by simp);have h3:=thenT_len a (allT L);have e:allT (a::L)=thenT a (allT L):=by simp[allT]
  rw[e,List.length_cons,Nat.succ_mul];omega
theorem tellG_len{cnt n:Nat}{W:Int→Nat→Int}:∀(l r:Nat) (p:Int),l≤2→(tellG cnt n W l r p).1.length≤(if l=0 then 1 else if l=1 then 129 else 16513)
 |0,r,p,_=>by unfold tellG;split<;>(try split)<;>simp
 |l+1,r,p,hl=>by
  unfold tellG;split
  ·simp
  split
  ·simp
  refine Nat.le_trans (thenT_len _ _) ?_;have h:=allT_len (if l=0 then 1 else if l=1 then 129 else 16513) ((List.range 128).map fun k=>tellG cnt n W l (belR l r k) (W p k)) (fun a ha=>by
   obtain⟨k,_,rfl⟩:=List.mem_map.1 ha;exact tellG_len l _ _ (by omega))
  rw[List.length_map,List.length_range] at h;have hl2:l=0∨l=1:=by omega
  rcases hl2 with rfl|rfl
  ·simp at h⊢;omega
  ·simp at h⊢;omega
theorem tops_len{cnt n:Nat}{W:Int→Nat→Int}{Pv:Nat→Int}:(allT (topsT cnt n W Pv)).1.length≤231182:=by
 refine Nat.le_trans (allT_len 16513 _ (fun a ha=>?_)) (by unfold topsT;simp);unfold topsT at ha;obtain⟨j,_,rfl⟩:=List.mem_map.1 ha;refine Nat.le_trans (tellG_len _ _ _ (topL_le j)) ?_;split
 ·omega
 ·split<;>omega
theorem Kq.grown{n₀ z:Nat}{Ty:TypeId→Prop}{W W':World}{row:Option Nat}(hg:W.grownBy W' row)(hn:n₀≤W.heap.size)(hr:∀r,row=some r→n₀≤r∧∃C t,Blk W r C t∧Ty t):Kq n₀ z Ty W W':=by
 refine⟨(Below.refl _ _).grown hg hn (fun k e=>(hr k e).1),fun k cs t fr hk hu=>?_,fun k o hk ho hc=>?_,hg.size⟩
 ·refine(hg.block k (Array.getElem?_eq_some_iff.1 hk).1 (fun e=>?_)).trans hk;obtain⟨_,C,t',hb,ht⟩:=hr k e.symm;have hb':W.heap[k]?=some (.cells C t'):=hb;rw[hb'] at hk;cases hk
  exact hu ht
 ·refine(hg.block k (Array.getElem?_eq_some_iff.1 ho).1 (fun e=>?_)).trans ho;obtain⟨_,C,t',hb,ht⟩:=hr k e.symm;have hb':W.heap[k]?=some (.cells C t'):=hb;rw[hb'] at ho;cases ho
  cases hc
theorem own_rowB{W:World}{base n:Nat}{e:TypeId}{v:Value}{xs:List Value}(h:W.ownsRow base e 1 v n xs){r:Nat}(hr:v.ownBlock=some r):base≤r∧∃C,Blk W r C e:=by
 rcases h.2 with⟨rfl,_⟩|⟨g,cap,cur,rfl,hb,hg,_⟩
 ·cases hr
 ·cases hr
  exact⟨hb,cur,hg⟩
theorem own_abide{A B:World}{row:Option Nat}{base n z:Nat}{e:TypeId}{v:Value}{xs:List Value}(h:A.ownsRow base e 1 v n xs)(hg:A.grownBy B row)(hr:∀r,row=some r→z≤r∧∃o,A.heap[r]?=some o∧o.isCells=false):B.ownsRow base e 1 v n xs:=by
 refine h.kept hg ?_;cases hb:v.ownBlock with
 |none=>exact .inl rfl
 |some g=>
  refine .inr fun e=>?_;obtain⟨_,C,hC⟩:=own_rowB h hb;obtain⟨_,o,ho,hc⟩:=hr g e.symm;have hC':A.heap[g]?=some (.cells C _):=hC;rw[hC'] at ho;cases ho
  cases hc
theorem results_ints{fn:Func}{p q:Tmp}(h:fn.results=#[.cell p 26,.cell q 67])(tmps:Array Value)(w:World)(R1 R2:Nat)(v1 v2:Value)(hp:tmps.getD p undef=.pointer (some ⟨R1,0,none⟩))(hq:tmps.getD q undef=.pointer (some ⟨R2,0,none⟩))
 (h1:Blk w R1 #[v1] 26) (h2:Blk w R2 #[v2] 67):(results fn tmps).run Tryz.prog w=.ok (.tuple #[v1,v2]) w:=by
 have c1:=(h1.cell 0).trans (show _=some v1 from rfl);have c2:=(h2.cell 0).trans (show _=some v2 from rfl);have hp':tmps[p]?.getD undef=.pointer (some ⟨R1,0,none⟩):=by rw[←Array.getD_eq_getD_getElem?];exact hp
 have hq':tmps[q]?.getD undef=.pointer (some ⟨R2,0,none⟩):=by rw[←Array.getD_eq_getD_getElem?];exact hq
 simp only[results,h];go_simp
def numX(pre:List TX):List Int:=pre.map (fun x=>x.1.2.2)
theorem numX_len(pre:List TX):(numX pre).length=pre.length:=by unfold numX;simp
theorem numX_snoc(pre:List TX)(x:TX):numX (pre++[x])=numX pre++[x.1.2.2]:=by unfold numX;simp
structure LstI(w:World)(C:Array Value)(Z:TL)(pre:List TX)(W:World):Prop where
 told:∃A,pre=upX A∧A<+:Z.1
 box:∃lv,Blk W (w.heap.size+3) #[lv] 26∧W.ownsRow w.heap.size 3 1 lv pre.length ((numX pre).map (Value.int .i64))
 tree:Blk W w.heap.size C 75
 res1:Blk W (w.heap.size+1) #[.slice none 0 0] 26
 res2:Blk W (w.heap.size+2) #[.nilIface] 67
 old:Below w.heap.size w W
 size:w.heap.size+7≤W.heap.size
theorem LstI.abides{w:World}{z:Nat}{C:Array Value}{Z:TL}(hz:w.heap.size≤z):AbidesZ z (LstI w C Z):=by
 intro pre A B row h hg hr;obtain⟨lv,h1,h2⟩:=h.box;exact⟨h.told,⟨lv,blk_abide h1 hg hr,own_abide h2 hg hr⟩,blk_abide h.tree hg hr,blk_abide h.res1 hg hr,blk_abide h.res2 hg hr,below_abide h.old hz (by have:=h.size;omega) hg hr,Nat.le_trans h.size hg.size⟩
theorem one_newH(W:World)(v:Value)(t:TypeId):∀j u,[v][j]?=some u→(W.alloc (.cells #[v] t)).cell? ((⟨W.heap.size,0,none⟩:Addr).add j)=some u:=fun j u hj=>by
 cases j with
 |zero=>
  rw[Addr.add_mid];refine((Blk.new W #[v] t).cell (0+0)).trans ?_;simpa using hj
 |succ j=>simp at hj
theorem list_any(cnt sz:Nat)(zs:List Int)(C:Array Value)(Pv:Nat→Int)(iv:Value)(w:World)(Z:TL)
 (hC0:C[0]?=some iv) (hC1:C[1]?=some (.int .i64 (sz:Int))) (hCP:∀j,j<14→C[2+j]?=some (.int .i64 (Pv j))) (hCs:C.size=16) (hR:Rd .u8 w iv zs) (hz:zs.length≤1048576) (hbd:∀z∈zs,0≤z∧z<256) (hsz:sz≤262144) (hcnt:cnt=(sz+511)/512)
 (hZ:Z=allT (topsT cnt (zs.length/512) (wrdP zs) Pv)):
 Calls Tryz.prog 54 #[.agg C] w fun e w'=>∃v ev,e=.returned (.tuple #[v,ev])∧((Z.2=false∧ev=.nilIface∧w'.ownsRow w.heap.size 3 1 v (numX (upX Z.1)).length ((numX (upX Z.1)).map (Value.int .i64)))∨(Z.2=true∧v=.slice none 0 0∧∃n,Flt w' 0 n ev 21))∧Below w.heap.size w w':=by
 obtain⟨i0,hi,hz0,hz1,hz2⟩:=info_parts infoI64;have HT:=hide (And.intro hi (And.intro hz0 (And.intro hz1 hz2)));clear hi hz0 hz1 hz2;have HC:=hide (And.intro hC0 (And.intro hC1 (And.intro hCP hCs)));have HR:=hide (And.intro hR hbd);have HZ:=hide hZ;have HZl:=hide (show Z.1.length≤231182 by rw[hZ];exact tops_len);clear hC0 hC1 hCP hCs hR hbd hZ;obtain⟨W0,hW0⟩:∃W0,W0=(((w.alloc (.cells C 75)).alloc (.cells #[.slice none 0 0] 26)).alloc (.cells #[.nilIface] 67)).alloc (.cells #[.slice none 0 0] 26):=⟨_,rfl⟩;have hs0:W0.heap.size=w.heap.size+4:=by rw[hW0];simp
 have B0:=hide (show Below w.heap.size w W0 from by rw[hW0];exact((((Below.refl _ _).alloc (Nat.le_refl _) _).alloc (by simp) _).alloc (by simp;omega) _).alloc (by simp;omega) _);have K0:=hide (show Blk W0 w.heap.size C 75 from by rw[hW0];exact(((Blk.new w C _).alloc _).alloc _).alloc _);have K1:=hide (show Blk W0 (w.heap.size+1) #[.slice none 0 0] 26 from by have h:=Blk.new (w.alloc (.cells C 75)) #[.slice none 0 0] 26;rw[World.size_alloc] at h;rw[hW0];exact(h.alloc _).alloc _);have K2:=hide (show Blk W0 (w.heap.size+2) #[.nilIface] 67 from by have h:=Blk.new ((w.alloc (.cells C 75)).alloc (.cells #[.slice none 0 0] 26)) #[.nilIface] 67;rw[World.size_alloc,World.size_alloc] at h;rw[hW0];exact h.alloc _);have K3:=hide (show Blk W0 (w.heap.size+3) #[.slice none 0 0] 26 from by have h:=Blk.new (((w.alloc (.cells C 75)).alloc (.cells #[.slice none 0 0] 26)).alloc (.cells #[.nilIface] 67)) #[.slice none 0 0] 26;rw[World.size_alloc,World.size_alloc,World.size_alloc] at h;rw[hW0];exact h);have HW0:=hide hW0;have HS0:=hide hs0;clear hW0 hs0;obtain⟨WL,hWL⟩:∃WL,WL=W0.alloc (.cells C 75):=⟨_,rfl⟩;have hs0a:W0.heap.size≤w.heap.size+4:=by rw[HS0.out];omega
 have hs0b:w.heap.size+4≤W0.heap.size:=by rw[HS0.out];omega
 have b0L:Below W0.heap.size W0 WL:=by rw[hWL];exact(Below.refl _ _).alloc (Nat.le_refl _) _
 have hsLe:WL.heap.size=W0.heap.size+1:=by rw[hWL];simp
 have hsLa:WL.heap.size≤W0.heap.size+1:=by rw[hsLe];omega
 have hsLb:W0.heap.size+1≤WL.heap.size:=by rw[hsLe];omega
 clear hsLe;have I0:=hide (show ∀W',Below WL.heap.size WL W'→WL.heap.size+2≤W'.heap.size→LstI w C Z [] W' from fun W' hb hs'=>by
  have hb0:Below W0.heap.size W0 W':=b0L.trans (hb.mono (by omega));exact⟨⟨[],rfl,List.nil_prefix⟩,⟨_,K3.out.below hb0 K3.out.lt,World.ownsRow_nil _ _ _ _⟩,K0.out.below hb0 K0.out.lt,K1.out.below hb0 K1.out.lt,K2.out.below hb0 K2.out.lt,B0.out.trans (hb0.mono (by omega)),by omega⟩)
 have HX:=hide (show Blk WL W0.heap.size C 75 from by rw[hWL];exact Blk.new W0 C 75);have HBL:=hide (show Below w.heap.size w WL from B0.out.trans (b0L.mono (by omega)));have HWL:=hide hWL;clear hWL b0L;refine(callsIn_wide (n:=6)).1 ?_;refine callsIn_of_wp_marks Tryz.func54 rfl trivial ?_ rfl;simp only[Tryz.ntmps54,List.size_toArray,List.length_cons,List.length_nil,Nat.reduceAdd,Nat.reduceSub,Array.replicate_succ,Array.replicate_zero,List.push_toArray,List.append_toArray,List.nil_append,List.cons_append];gi_upto_region 2 with fail
 rw[←HW0.out];refine wpIn_wide.2 ?_;go_wp2_with (first
  |(refine wpList_load_row rfl 75 _ rfl w.heap.size rfl 75 C (0,0) _ K0.out Tryz.underlying75 rfl (by rw[HC.out.2.2.2];exact infoTr) ?_)
  |(go_at_call 80;refine(callsIn_wide.1 (blocks_in 0 C _)).mono ?_;rintro e w' ⟨rfl,rfl⟩))
 gi_wp2
 rw[←HWL.out];have hmx:Tryz.prog.follows .mixedOrders=true:=by kernel_rfl
 refine wpIn_rangeGoesK (α:=TX) rfl (by decide) (gf:=104) (lb:=#[.pointer (some ⟨W0.heap.size,0,none⟩)]) rfl trivial (enters_of Tryz.func104 (by kernel_rfl) rfl) (encs:=TX.enc) (Kp:=(Kq w.heap.size (WL.heap.size+2) (fun t=>t=26∨t=3))) Kq.trans (fun A o o' ho hc=>Kq.put o' (by omega) (by omega) ho hc)
  (Ok:=OkX Z) (S:=fun xs=>(Z.2=false∧xs=upX Z.1)∨(Z.2=true∧∃x,xs=upX Z.1++[x])) (Sp:=fun _=>True)
  (fun W1 hb1 hs1=>by
   have:=blocks_goes 5 (by omega) W0.heap.size w.heap.size (fun t=>t=26∨t=3) Z cnt sz zs C Pv iv w W1 (by decide) (by decide) (by decide) (by decide) HC.out.1 HC.out.2.1 HC.out.2.2.1 HC.out.2.2.2 HR.out.1 rfl hz HR.out.2 hsz hcnt HZ.out (HX.out.below hb1 HX.out.lt) (HBL.out.trans (hb1.mono (by omega))) (by omega);rw[hs1] at this;exact this)
  (fun _=>rfl) (LstI w C Z)
  (fun c pre Wx=>c=.ret∧Z.2=true∧(∃v,Blk Wx (w.heap.size+1) #[.slice none 0 0] 26∧Blk Wx (w.heap.size+2) #[v] 67∧∃n,Flt Wx 0 n v 21)∧Below w.heap.size w Wx)
  (LstI.abides (by omega))
  (by
   rintro c pre A B row ⟨h1,h2,⟨v,h3,h4,n,h5⟩,h6⟩ hg hr;exact⟨h1,h2,⟨v,blk_abide h3 hg hr,blk_abide h4 hg hr,n,flt_abide h5 hg hr⟩,below_abide h6 (by omega) h6.size hg hr⟩)
  (fun W' hb hs'=>I0.out W' hb (by omega))
  (fun pre x a' Wx=>∃c,a'={tmps:=#[.agg C,.pointer (some ⟨w.heap.size,0,none⟩),.pointer (some ⟨w.heap.size+1,0,none⟩),.pointer (some ⟨w.heap.size+1+1,0,none⟩),.pointer (some ⟨w.heap.size+1+1+1,0,none⟩),.pointer (some ⟨c,0,none⟩),x.2,.agg C,.func (.func 104) #[] #[.pointer (some ⟨W0.heap.size,0,none⟩)],.agg #[.int .i64 (x.1.1:Int),.int .i64 (x.1.2.1:Int),.int .i64 x.1.2.2],x.2,undef,undef,undef,undef,undef,undef,undef,undef,undef],defers:=[]}∧Blk Wx c #[.int .i64 (x.1.1:Int),.int .i64 (x.1.2.1:Int),.int .i64 x.1.2.2] 144∧(LstI w C Z) pre Wx∧OkX Z pre x Wx) ?ax ?assign ?body ?done ?stop
 case ax=>
  rintro pre x a' A B ⟨c,h1,h2,h3,h4⟩ hg hr;exact⟨c,h1,blk_bare h2 hg hr,LstI.abides (z:=WL.heap.size+1) (by omega) pre A B _ h3 hg (fun r e=>by cases e;exact⟨Nat.le_refl _,hr⟩),okX_abide (z:=0) h4 hg (fun r e=>by cases e;exact⟨Nat.zero_le _,hr⟩)⟩
 case assign=>
  rintro l pre ⟨⟨lv,rk,p⟩,ev⟩ Wx K hI hok hK;have HK:=hide (And.intro hI (And.intro hok hK));clear hI hok hK;unfold TX.enc;gi_wp2
  have bA:Below Wx.heap.size Wx (Wx.alloc (.cells #[.int .i64 (lv:Int),.int .i64 (rk:Int),.int .i64 p] 144)):=(Below.refl _ _).alloc (Nat.le_refl _) _;have gA:Wx.grownBy (Wx.alloc (.cells #[.int .i64 (lv:Int),.int .i64 (rk:Int),.int .i64 p] 144)) none:=⟨bA.os,bA.tape,bA.output,bA.size,fun k hk _=>bA.block k hk⟩;exact HK.out.2.2 _ _ (keeps_belowT bA) (Kq.of_below bA (by have:=HK.out.1.size;omega)) ⟨_,rfl,Blk.new _ _ _,LstI.abides (z:=w.heap.size) (Nat.le_refl _) pre _ _ none HK.out.1 gA (fun r e=>by cases e),okX_abide (z:=0) HK.out.2.1 gA (fun r e=>by cases e)⟩
 case body=>
  rintro l pre ⟨⟨lv,rk,p⟩,ev⟩ a' Wx ⟨c,rfl,kc,hI,hok⟩;dsimp only at kc⊢
  have hIs:=hI.size;rcases hok with⟨hev,A,hA,hpre⟩|⟨hx0,A,hA,hZt,nf,hfl⟩
  ·dsimp only at hev
   subst hev;have HT2:=hide (show ∃A',pre++[((lv,rk,p),Value.nilIface)]=upX A'∧A'<+:Z.1 from⟨A++[(lv,rk,p)],by rw[upX_snoc,hA],hpre⟩);have hpl:pre.length+1≤231182:=by
    have h1:=hpre.length_le;have h2:=HZl.out;have h3:pre.length=A.length:=(by rw[hA];unfold upX;simp);simp at h1;omega
   obtain⟨lw,hbx,hrow⟩:=hI.box;obtain⟨a',cap',rfl⟩:=own_shape5 hrow;have c2:=(kc.cell 2).trans (show _=some (.int .i64 p) from rfl);have cL:Wx.cell? ⟨w.heap.size+1+1+1,0,none⟩=some (.slice a' pre.length cap'):=(hbx.cell 0).trans rfl;have HI:=hide hI;have HB:=hide hbx;have HRow:=hide hrow;clear hI kc hpre hA hbx hrow;gi_wp2_with (first
    |(gi_at_builtin;refine wpListIn_append_own _ rfl _ _ 26 rfl w.heap.size 3 i0 (.int .i64 0) 1 8 Tryz.underlying26 HT.out.1 HT.out.2.1 HT.out.2.2.1 HT.out.2.2.2 rfl (by decide) _ _ _ rfl (HRow.out.alloc _) ⟨Wx.heap.size,0,none⟩ 1 1 [.int .i64 p] rfl rfl (one_newH _ _ _) (by simp[Value.oneCell']) (by unfold maxLen;omega) (by omega) (by simp;omega) ?_;intro v' w1 hown' hgrow _;obtain⟨a1,cap1,rfl⟩:=own_shape5 hown';have HA:=hide (And.intro hown' hgrow);clear hown' hgrow;have HK1:=hide (blk_own (HRow.out.alloc _) (HB.out.alloc _) (by decide) HA.out.2);have cL1:w1.cell? ⟨w.heap.size+1+1+1,0,none⟩=some (.slice a' pre.length cap'):=(HK1.out.cell 0).trans rfl;have fL1:=HK1.out.frozen 0))
   obtain⟨WF,hWF⟩:∃WF,WF=w1.setCell ⟨w.heap.size+1+1+1,0,none⟩ (.slice a1 (pre.length+1) cap1):=⟨_,rfl⟩;have kF:∀z,Kq w.heap.size z (fun t=>t=26∨t=3) Wx WF:=fun z=>by
    have bA:Below Wx.heap.size Wx (Wx.alloc (.cells #[.int .i64 p] 3)):=(Below.refl _ _).alloc (Nat.le_refl _) _;have s1:=HA.out.2.size;have s0:=bA.size;refine((Kq.of_below bA (by omega)).trans (Kq.grown HA.out.2 (by omega) (fun r e=>?_))).trans ?_
    ·obtain⟨h1,C1,h2⟩:=own_rowB (HRow.out.alloc _) e;exact⟨h1,C1,_,h2,.inr rfl⟩
    ·rw[hWF];exact Kq.grown (grownBy_setCell' w1 (w.heap.size+3) _) (by omega) (fun r e=>by cases e;exact⟨by omega,_,_,HK1.out,.inl rfl⟩)
   have HN:=hide (show LstI w C Z (pre++[((lv,rk,p),Value.nilIface)]) WF from by
    have hoth:∀{b:Nat} {Cb:Array Value} {t:TypeId},t≠3→b≠w.heap.size+3→Blk Wx b Cb t→Blk WF b Cb t:=fun ht hb h=>by
     rw[hWF];exact(blk_own (HRow.out.alloc _) (h.alloc _) ht HA.out.2).other _ _ hb
    refine⟨HT2.out,⟨.slice a1 (pre.length+1) cap1,by rw[hWF];exact HK1.out.set 0 _,?_⟩,hoth (by decide) (by omega) HI.out.tree,hoth (by decide) (by omega) HI.out.res1,hoth (by decide) (by omega) HI.out.res2,HI.out.old.trans (kF 0).below,Nat.le_trans HI.out.size (kF 0).size⟩;rw[hWF,numX_snoc,List.map_append,show(pre++[((lv,rk,p),Value.nilIface)]).length=pre.length+1 from by simp];exact own_setT HA.out.1 HK1.out (by decide))
   rw[←hWF];exact⟨(kF _).keepsZ,kF _,HN.out⟩
  ·obtain⟨t',x',rfl⟩:=hfl.iface;have HI:=hide (And.intro hI hfl);have c1:=(hI.res1.cell 0).trans (show _=some (.slice none 0 0) from rfl);have f1:=hI.res1.frozen 0;have c2:=(hI.res2.cell 0).trans (show _=some .nilIface from rfl);have f2:=hI.res2.frozen 0;have HZt:=hide (show Z.2=true by rw[hZt]);clear hI hfl hA hZt;gi_wp2
   have hfin:Blk ((Wx.setCell ⟨w.heap.size+1,0,none⟩ (.slice none 0 0)).setCell ⟨w.heap.size+1+1,0,none⟩ (.iface t' (.pointer (some x')))) (w.heap.size+1) #[.slice none 0 0] 26∧Blk ((Wx.setCell ⟨w.heap.size+1,0,none⟩ (.slice none 0 0)).setCell ⟨w.heap.size+1+1,0,none⟩ (.iface t' (.pointer (some x')))) (w.heap.size+2) #[.iface t' (.pointer (some x'))] 67∧∃n,Flt ((Wx.setCell ⟨w.heap.size+1,0,none⟩ (.slice none 0 0)).setCell ⟨w.heap.size+1+1,0,none⟩ (.iface t' (.pointer (some x')))) 0 n (.iface t' (.pointer (some x'))) 21:=by
    have k2:=HI.out.1.res2.other ⟨w.heap.size+1,0,none⟩ (.slice none 0 0) (by show w.heap.size+2≠w.heap.size+1;omega);refine⟨(HI.out.1.res1.set 0 (.slice none 0 0)).other ⟨w.heap.size+1+1,0,none⟩ _ (by show w.heap.size+1≠w.heap.size+1+1;omega),k2.set 0 _,nf,?_⟩;exact flt_set k2 (by intro k z h;cases h) _ (flt_set HI.out.1.res1 (by intro k z h;cases h) _ HI.out.2)
   have hold:=(HI.out.1.old.setCell (p:=⟨w.heap.size+1,0,none⟩) (by show w.heap.size≤w.heap.size+1;omega) (.slice none 0 0)).setCell (p:=⟨w.heap.size+1+1,0,none⟩) (by show w.heap.size≤w.heap.size+1+1;omega) (.iface t' (.pointer (some x')));exact⟨((KeepsOthers.setCell _ _ _).trans (KeepsOthers.setCell _ _ _)).from _,⟨rfl,HZt.out,⟨hfin.1,_,hfin.2⟩,hold⟩⟩
 case done=>
  rintro xs Wx hS hI hK;obtain⟨lw,hbx,hrow⟩:=hI.box;obtain⟨a',cap',rfl⟩:=own_shape5 hrow;have HI:=hide (And.intro hI hK);have HSx:=hide hS;have HRow:=hide hrow;have hb:Wx.cell? ⟨w.heap.size+1+1+1,0,none⟩=some (.slice a' xs.length cap'):=(hbx.cell 0).trans rfl;have c1:=(hI.res1.cell 0).trans (show _=some (.slice none 0 0) from rfl);have f1:=hI.res1.frozen 0;have c2:=(hI.res2.cell 0).trans (show _=some .nilIface from rfl);have f2:=hI.res2.frozen 0;clear hI hK hS hbx hrow;gi_wp2
  have hZ0:Z.2=false∧xs=upX Z.1:=by
   rcases HSx.out with h|⟨h,x,hx⟩
   ·exact h
   ·exfalso;obtain⟨A,hA,hp⟩:=HI.out.1.told;have h1:=congrArg List.length (hx.symm.trans hA);have h2:=hp.length_le;unfold upX at h1;simp at h1;omega
  obtain⟨hZ1,rfl⟩:=hZ0;obtain⟨WE,hWE⟩:∃WE,WE=(Wx.setCell ⟨w.heap.size+1,0,none⟩ (.slice a' (upX Z.1).length cap')).setCell ⟨w.heap.size+1+1,0,none⟩ .nilIface:=⟨_,rfl⟩;rw[←hWE];have r2a:=HI.out.1.res2.other ⟨w.heap.size+1,0,none⟩ (.slice a' (upX Z.1).length cap') (by show w.heap.size+2≠w.heap.size+1;omega);have r1:Blk WE (w.heap.size+1) #[.slice a' (upX Z.1).length cap'] 26:=by rw[hWE];exact(HI.out.1.res1.set 0 _).other _ _ (by show w.heap.size+1≠w.heap.size+1+1;omega)
  have r2:Blk WE (w.heap.size+1+1) #[.nilIface] 67:=by rw[hWE];exact r2a.set 0 .nilIface
  have rg:WE.ownsRow w.heap.size 3 1 (.slice a' (upX Z.1).length cap') (upX Z.1).length ((numX (upX Z.1)).map (Value.int .i64)):=by rw[hWE];exact own_setT (own_setT HRow.out HI.out.1.res1 (by decide)) r2a (by decide)
  have hD:WE.heap[WL.heap.size]?=some (.deferred (some [])):=by rw[hWE];exact(KeepsOthers.setCell _ _ _).same _ _ ((KeepsOthers.setCell _ _ _).same _ _ HI.out.2 rfl) rfl
  have hbE:Below w.heap.size w WE:=by rw[hWE];exact(HI.out.1.old.setCell (p:=⟨w.heap.size+1,0,none⟩) (by show w.heap.size≤w.heap.size+1;omega) _).setCell (p:=⟨w.heap.size+1+1,0,none⟩) (by show w.heap.size≤w.heap.size+1+1;omega) _
  refine⟨by simp,.inl ⟨_,_,rfl,run_takeDeferred hD,?_⟩⟩;refine⟨_,results_ints rfl _ _ (w.heap.size+1) (w.heap.size+1+1) _ _ rfl rfl (blk_put _ r1 hD rfl) (blk_put _ r2 hD rfl),_,_,rfl,.inl ⟨hZ1,rfl,?_⟩,?_⟩
  ·rw[numX_len];exact own_abide (z:=0) rg (grownBy_putObj' _ _ _) (fun r e=>by cases e;exact⟨Nat.zero_le _,_,hD,rfl⟩)
  ·exact hbE.trans (belowK_b (w:=w) (Nat.le_refl _) WE WL.heap.size _ (.deferred none) (by omega) hD rfl rfl)
 case stop=>
  rintro c pre Wx _ ⟨rfl,hZ2,⟨v,h3,h4,n,h5⟩,h6⟩ hK;have HI:=hide (And.intro hZ2 (And.intro h3 (And.intro h4 (And.intro h5 (And.intro h6 hK)))));clear hZ2 h3 h4 h5 h6 hK;gi_wp2
  have hD:=HI.out.2.2.2.2.2;refine⟨by simp,.inl ⟨_,_,rfl,run_takeDeferred hD,?_⟩⟩;refine⟨_,results_ints rfl _ _ (w.heap.size+1) (w.heap.size+1+1) _ _ rfl rfl (blk_put _ HI.out.2.1 hD rfl) (blk_put _ HI.out.2.2.1 hD rfl),_,_,rfl,.inr ⟨HI.out.1,rfl,n,?_⟩,?_⟩
  ·exact flt_abide (z:=0) HI.out.2.2.2.1 (grownBy_putObj' _ _ _) (fun r e=>by cases e;exact⟨Nat.zero_le _,_,hD,rfl⟩)
  ·exact HI.out.2.2.2.2.1.trans (belowK_b (w:=w) (Nat.le_refl _) Wx WL.heap.size _ (.deferred none) (by omega) hD rfl rfl)
end
section
open Go.RowKit
theorem toldI_nil(w:World)(a:Option Addr)(len cap:Nat):
 Calls Tryz.prog 53 #[.slice a len cap,.nilIface] w fun e w'=>e=.returned (.tuple #[.slice a len cap,.int .i64 0])∧w'=w:=by
 go_enter Tryz.func53,Tryz.ntmps53;go_wp2;go_ret2;exact⟨rfl,rfl⟩
theorem toldI_bad(w:World)(a:Option Addr)(len cap m lo:Nat)(ev:Value)(code:Int)(hf:Flt w lo m ev code)(hg:ErrT w):
 Calls Tryz.prog 53 #[.slice a len cap,ev] w fun e w'=>e=.returned (.tuple #[.slice none 0 0,.int .i64 code])∧Below w.heap.size w w':=by
 obtain⟨t',x',rfl⟩:=hf.iface;have H4:=hide hf;have HG:=hide hg;clear hf hg;go_enter Tryz.func53,Tryz.ntmps53;go_wp2_with (go_at_call 36;refine(codeOf_any m _ code _ _ H4.out HG.out).mono ?_;rintro e w3 ⟨rfl,hb3⟩);go_ret2;exact⟨rfl,hb3⟩
def tbB(zs:List Int)(s:Int)(ds:List Int)(p q:Int):List Int:=if okR zs s ds p q=true∧(ZR zs s ds p q).2=false then numX (upX (ZR zs s ds p q).1) else []
theorem implTB_any(img:Value)(zs:List Int)(s:Int)(ds:List Int)(p q:Int)(w:World)(h:Rd .u8 w img zs)(hz:zs.length≤1048576)(hbd:∀z∈zs,0≤z∧z<256)(hd:ds.length=12)(hg:ErrT w):
 Calls Tryz.prog 29 #[img,.agg (cellsI (rootI s ds p q))] w fun e w'=>∃v,e=.returned (.tuple #[v,.int .i64 (trC zs s ds p q)])∧w'.ownsRow w.heap.size 3 1 v (tbB zs s ds p q).length ((tbB zs s ds p q).map (Value.int .i64))∧Below w.heap.size w w':=by
 have HR:=hide (And.intro h (And.intro hbd (And.intro hd hg)));have hRl:=rootI_len s ds p q hd;have HZ:=hide (show(cellsI (rootI s ds p q)).size=15 from by rw[cellsI_size];exact hRl);obtain⟨sa,sc,rfl⟩:=rd_shapeT h;have HTs:=hide (treT_size (.slice sa zs.length sc) _ hRl);obtain⟨Z1,hZ1,hAl⟩:=letTr;have HAl:=hide (And.intro hZ1 hAl);have HRl:=hide hRl;clear h hbd hd hRl hZ1 hAl hg;have b0:Below w.heap.size w (w.alloc (.cells (cellsI (rootI s ds p q)) 27)):=(Below.refl _ _).alloc (Nat.le_refl _) _;have HB0:=hide b0;clear b0;go_enter Tryz.func29,Tryz.ntmps29;go_upto_region 2 with(first
  |(refine wpList_load_row rfl 27 _ rfl w.heap.size rfl 27 (cellsI (rootI s ds p q)) (0,0) _ (Blk.new w _ _) Tryz.underlying27 rfl (by rw[HZ.out];exact info15) ?_)
  |(go_at_call 52;refine(openTree_any _ zs s ds p q _ (HR.out.1.below HB0.out) hz HR.out.2.2.1).mono ?_;rintro e w2 ⟨ev,rfl,f2,b2⟩;have H2:=hide (And.intro f2 b2);clear f2 b2)
  |(refine Great.wpList_allocTo rfl (some 6) rfl (.pointer (some ⟨w2.heap.size,0,none⟩)) (.cells Z1 75) (HAl.out.2 _ _ _ rfl) ?_)
  |(refine wpList_store_row rfl 75 _ _ rfl w2.heap.size (treT (.slice sa zs.length sc) (rootI s ds p q)) rfl rfl 75 Z1 (Blk.new w2 _ _) (by rw[HTs.out];exact infoTr) (by rw[HTs.out];exact HAl.out.1) (treT_one _) ?_))
 obtain⟨W3,hW3⟩:∃W3,W3=(w2.alloc (.cells Z1 75)).setRow w2.heap.size (treT (.slice sa zs.length sc) (rootI s ds p q)):=⟨_,rfl⟩;have K3:=hide (show Blk W3 w2.heap.size (treT (.slice sa zs.length sc) (rootI s ds p q)) 75 from by rw[hW3];exact(Blk.new w2 Z1 75).row _);have B3:=hide (show Below w2.heap.size w2 W3 from by rw[hW3];exact below_setRow ((Below.refl _ _).alloc (Nat.le_refl _) _) (Nat.le_refl _) _);rw[←hW3];clear hW3;have BW:=hide (show Below w.heap.size w W3 from HB0.out.trans ((H2.out.2.trans (B3.out.mono H2.out.2.size)).mono HB0.out.size));cases hok:szOk zs.length&&rightR s ds p q with
 |false=>
  have hf:=H2.out.1;rw[hok] at hf;rcases hf with⟨hf,_⟩|⟨_,m,hf⟩
  ·cases hf
  obtain⟨t',x',rfl⟩:=hf.iface;have HF:=hide (hf.below B3.out);have HC:=hide (show trC zs s ds p q=7∧tbB zs s ds p q=[] from⟨by unfold trC okR;rw[hok,if_pos rfl],by unfold tbB okR;rw[hok,if_neg (by simp)]⟩);clear hf hok;go_wp2_with (go_at_call 36;refine(codeOf_any m _ 7 _ _ HF.out (HR.out.2.2.2.below BW.out)).mono ?_;rintro e w4 ⟨rfl,b4⟩;have HB4:=hide b4;clear b4);go_ret2;exact⟨_,by rw[HC.out.1];rfl,by rw[HC.out.2];exact World.ownsRow_nil _ _ _ _,BW.out.trans (HB4.out.mono BW.out.size)⟩
 |true=>
  have hf:=H2.out.1;rw[hok] at hf;rcases hf with⟨_,rfl⟩|⟨hf,_⟩;rotate_left
  ·cases hf
  have hr:rightR s ds p q=true:=by rw[Bool.and_eq_true] at hok;exact hok.2
  obtain⟨hs0,hs1⟩:=right_size hr;obtain⟨sz,rfl⟩:∃sz:Nat,s=(sz:Int):=⟨s.toNat,by omega⟩;have HOk:=hide (show okR zs (sz:Int) ds p q=true from hok);clear hok hr hs0;have hRl:=HRl.out;have hX:=fun k hk=>treT_k (.slice sa zs.length sc) (rootI (sz:Int) ds p q) k hk;have HX:=hide (show(treT (.slice sa zs.length sc) (rootI (sz:Int) ds p q))[1]?=some (.int .i64 (sz:Int))∧∀j,j<14→(treT (.slice sa zs.length sc) (rootI (sz:Int) ds p q))[2+j]?=some (.int .i64 ((ds++[p,q]).getD j 0)) from by
   refine⟨(hX 0 (by omega)).trans (by simp[rootI]),fun j hj=>?_⟩;have:=hX (j+1) (by omega);rw[show 1+(j+1)=2+j by omega] at this;rw[this];simp[rootI,List.getD])
  clear hX hRl;go_wp2_with (first
   |(refine wpList_load_row rfl 75 _ rfl w2.heap.size rfl 75 (treT (.slice sa zs.length sc) (rootI (sz:Int) ds p q)) (0,0) _ K3.out Tryz.underlying75 rfl (by rw[HTs.out];exact infoTr) ?_)
   |(go_at_call 54;refine(list_any ((sz+511)/512) sz zs _ (fun j=>(ds++[p,q]).getD j 0) _ _ (ZR zs (sz:Int) ds p q) (treT_0 _ _) HX.out.1 HX.out.2 HTs.out (HR.out.1.below BW.out) hz HR.out.2.1 (by omega) rfl rfl).mono ?_;rintro e w5 ⟨v,ev,rfl,h5,b5⟩;have H5:=hide (And.intro h5 b5);clear h5 b5)
   |(go_at_call 53;fail))
  have B5:=hide (BW.out.trans (H5.out.2.mono BW.out.size));rcases H5.out.1 with⟨hZ0,rfl,o5⟩|⟨hZ1,rfl,m,f5⟩
  ·obtain⟨va,vc,rfl⟩:=own_shape5 o5;have HC:=hide (show trC zs (sz:Int) ds p q=0∧tbB zs (sz:Int) ds p q=numX (upX (ZR zs (sz:Int) ds p q).1) from⟨by unfold trC;rw[HOk.out,hZ0];simp,by unfold tbB;rw[if_pos ⟨HOk.out,hZ0⟩]⟩);have HO:=hide (own_mono o5 BW.out.size);clear o5 hZ0;refine(toldI_nil w5 va _ vc).mono ?_;rintro e w6 ⟨rfl,rfl⟩;go_wp2;go_ret2;exact⟨_,by rw[HC.out.1];rfl,by rw[HC.out.2];exact HO.out,B5.out⟩
  ·have HC:=hide (show trC zs (sz:Int) ds p q=21∧tbB zs (sz:Int) ds p q=[] from⟨by unfold trC;rw[HOk.out,hZ1];simp,by unfold tbB;rw[if_neg (by rw[hZ1];simp)]⟩);have HF:=hide f5;clear f5 hZ1;refine(toldI_bad w5 none 0 0 m 0 ev _ HF.out (HR.out.2.2.2.below B5.out)).mono ?_;rintro e w6 ⟨rfl,b6⟩;have HB6:=hide b6;clear b6;go_wp2;go_ret2;exact⟨_,by rw[HC.out.1];rfl,by rw[HC.out.2];exact World.ownsRow_nil _ _ _ _,B5.out.trans (HB6.out.mono B5.out.size)⟩
end
end Go.Proofs.YtbhpealglhkodaaGreatDoor
