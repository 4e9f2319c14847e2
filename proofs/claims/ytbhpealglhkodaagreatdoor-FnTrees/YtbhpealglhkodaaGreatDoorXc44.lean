/- The program's numbers.root, wherever the numbers lie -/
import Derived.Test.YtbhpealglhkodaaGreatDoorXc43
namespace Go.Proofs.YtbhpealglhkodaaGreatDoor
set_option linter.all false
set_option maxRecDepth 100000
set_option maxHeartbeats 16000000
section
open Go.RowKit Go.Shelf
attribute [local go_sem] Oper.semAt_some
def numAt(Ls:Nat→List Int)(j:Nat):Int:=(Ls (topL j)).getD (topR j) 0
def rootC(Ls:Nat→List Int)(n k:Nat):Array Value:=cellsI ((n:Int)::(List.range 14).map (fun j=>if j<k then numAt Ls j else 0))
theorem rootC_size(Ls:Nat→List Int)(n k:Nat):(rootC Ls n k).size=15:=by simp[rootC,cellsI_size]
theorem rootC_set(Ls:Nat→List Int)(n k:Nat)(h:k<14):(rootC Ls n k).setIfInBounds (1+k) (.int .i64 (numAt Ls k))=rootC Ls n (k+1):=by
 apply Array.ext_getElem?;intro i;rw[Array.getElem?_setIfInBounds,rootC_size];cases i with
 |zero=>
  rw[if_neg (by omega)];simp[rootC,cellsI]
 |succ j=>
  by_cases e:1+k=j+1
  ·rw[if_pos e,if_pos (by omega)];obtain rfl:k=j:=(by omega);simp[rootC,cellsI,h]
  ·rw[if_neg e];by_cases hj:j<14
   ·simp only[rootC,cellsI,List.getElem?_toArray,List.map_cons,List.getElem?_cons_succ,List.getElem?_map,List.getElem?_range hj,Option.map_some];by_cases hjk:j<k
    ·rw[if_pos hjk,if_pos (by omega)]
    ·rw[if_neg hjk,if_neg (by omega)]
   ·simp[rootC,cellsI,hj]
theorem infoRtY:(Tryz.prog.info? 27).map (·.size)=some 15:=by kernel_rfl
structure RtI(b off:Nat)(Ls:Nat→List Int)(n:Nat)(w:World)(pre:List Nat)(W:World):Prop where
 le:pre.length≤14
 bp:Blk W w.heap.size #[.pointer (some ⟨b,off,none⟩)] 117
 br:Blk W (w.heap.size+1) (cellsI (List.replicate 15 0)) 27
 bx:Blk W (w.heap.size+1+1) (rootC Ls n pre.length) 27
 low:Below w.heap.size w W
 size:w.heap.size+6≤W.heap.size
theorem RtI.abides{b off n z:Nat}{Ls:Nat→List Int}{w:World}(hz:w.heap.size≤z):AbidesZ z (RtI b off Ls n w):=by
 intro pre A B row h hg hr;exact⟨h.le,blk_abide h.bp hg hr,blk_abide h.br hg hr,blk_abide h.bx hg hr,below_abide h.low hz h.low.size hg hr,Nat.le_trans h.size hg.size⟩
theorem blk_twoY{w:World}{b:Nat}{t:TypeId}{x y:Value}(h:Blk w b #[x,y] t):w.rangeAt b 0 [x,y]:=by
 intro j v hj;match j,hj with
 |0,hj=>rw[h.cell (0+0)];simpa using hj
 |1,hj=>rw[h.cell (0+1)];simpa using hj
 |k+2,hj=>simp at hj
theorem Kq.setC{n₀ z:Nat}{Ty:TypeId→Prop}{W:World}{g j:Nat}{c:Array Value}{t:TypeId}{v:Value}(h:Blk W g c t)(ht:Ty t)(hn:n₀≤g):Kq n₀ z Ty W (W.setCell ⟨g,j,none⟩ v):=by
 refine Kq.grown (row:=some g) ⟨rfl,rfl,rfl,by simp[World.setCell],fun k hk hne=>Below.heap_setCell W ⟨g,j,none⟩ v k (fun e=>hne (by rw[e]))⟩ (by have:=h.lt;omega) (fun r e=>by cases e;exact⟨hn,c,t,h,ht⟩)
theorem rootG_any(b off n base:Nat)(t:TypeId)(C:Array Value)(sl:Nat→Value)(Ls:Nat→List Int)(w:World)(h:NumS w base b off C t sl Ls):
 Calls Tryz.prog 38 #[.pointer (some ⟨b,off,none⟩),.int .i64 (n:Int)] w fun e w'=>e=.returned (.agg (rootC Ls n 14))∧Below w.heap.size w w':=by
 have HN:=hide h;obtain⟨ZR,hZR⟩:∃ZR,ZR=cellsI (List.replicate 15 0):=⟨_,rfl⟩;obtain⟨R0,hR0⟩:∃R0,R0=rootC Ls n 0:=⟨_,rfl⟩;obtain⟨Wa,hWa⟩:∃Wa,Wa=((w.alloc (.cells #[.pointer (some ⟨b,off,none⟩)] 117)).alloc (.cells ZR 27)).alloc (.cells R0 27):=⟨_,rfl⟩;have hZe:ZR=#[.int .i64 0,.int .i64 0,.int .i64 0,.int .i64 0,.int .i64 0,.int .i64 0,.int .i64 0,.int .i64 0,.int .i64 0,.int .i64 0,.int .i64 0,.int .i64 0,.int .i64 0,.int .i64 0,.int .i64 0]:=by rw[hZR];rfl
 have hRe:R0=#[.int .i64 (n:Int),.int .i64 0,.int .i64 0,.int .i64 0,.int .i64 0,.int .i64 0,.int .i64 0,.int .i64 0,.int .i64 0,.int .i64 0,.int .i64 0,.int .i64 0,.int .i64 0,.int .i64 0,.int .i64 0]:=by rw[hR0];rfl
 have sa:Wa.heap.size=w.heap.size+3:=by rw[hWa];simp
 have BA:=hide (show Below w.heap.size w Wa from by rw[hWa];exact((((Below.refl _ _).alloc (Nat.le_refl _) _).alloc (by simp) _).alloc (by simp;omega) _));have K0:=hide (show Blk Wa w.heap.size #[.pointer (some ⟨b,off,none⟩)] 117 from by rw[hWa];exact((Blk.new w _ _).alloc _).alloc _);have K1:=hide (show Blk Wa (w.heap.size+1) ZR 27 from by have h:=Blk.new (w.alloc (.cells #[.pointer (some ⟨b,off,none⟩)] 117)) ZR 27;rw[World.size_alloc] at h;rw[hWa];exact h.alloc _);have K2:=hide (show Blk Wa (w.heap.size+1+1) R0 27 from by have h:=Blk.new ((w.alloc (.cells #[.pointer (some ⟨b,off,none⟩)] 117)).alloc (.cells ZR 27)) R0 27;rw[World.size_alloc,World.size_alloc] at h;rw[hWa];exact h);obtain⟨WL,hWL⟩:∃WL,WL=Wa.alloc (.cells #[.pointer (some ⟨w.heap.size+1+1,0,none⟩)] 121):=⟨_,rfl⟩;have hsL:WL.heap.size=w.heap.size+4:=by rw[hWL];simp[sa]
 have BL:=hide (show Below Wa.heap.size Wa WL from by rw[hWL];exact(Below.refl _ _).alloc (Nat.le_refl _) _);have HBx:=hide (show Blk WL Wa.heap.size #[.pointer (some ⟨w.heap.size+1+1,0,none⟩)] 121 from by rw[hWL];exact Blk.new Wa _ _);have I0:=hide (show ∀W',Below WL.heap.size WL W'→WL.heap.size+2≤W'.heap.size→RtI b off Ls n w [] W' from fun W' hb hs'=>by
  have hb0:Below Wa.heap.size Wa W':=BL.out.trans (hb.mono (by omega));exact⟨by simp,K0.out.below hb0 K0.out.lt,by rw[←hZR];exact K1.out.below hb0 K1.out.lt,by rw[List.length_nil, ←hR0];exact K2.out.below hb0 K2.out.lt,BA.out.trans (hb0.mono (by omega)),by omega⟩)
 rw[hZe,hRe] at hWa;have HWa:=hide hWa;have HWL:=hide hWL;have hsa1:Wa.heap.size≤w.heap.size+3:=by omega
 have hsa2:w.heap.size+3≤Wa.heap.size:=by omega
 have hsL1:WL.heap.size≤w.heap.size+4:=by omega
 have hsL2:w.heap.size+4≤WL.heap.size:=by omega
 clear h hWa hWL sa hsL hZR hR0 hZe hRe;refine(callsIn_wide (n:=6)).1 ?_;refine callsIn_of_wp_marks Tryz.func38 rfl trivial ?_ rfl;simp only[Tryz.ntmps38,List.size_toArray,List.length_cons,List.length_nil,Nat.reduceAdd,Nat.reduceSub,Array.replicate_succ,Array.replicate_zero,List.push_toArray,List.append_toArray,List.nil_append,List.cons_append];gi_upto_region 2 with fail
 rw[←HWa.out];refine wpIn_wide.2 ?_;go_wp2_with (first
  |(go_at_call 68;refine(callsIn_wide.1 (tops0_in 0 _ _)).mono ?_;rintro e w' ⟨rfl,rfl⟩))
 gi_wp2
 rw[←HWL.out];have hmx:Tryz.prog.follows .mixedOrders=true:=by kernel_rfl
 refine wpIn_rangeGoesK (α:=Nat) rfl (by decide) (gf:=99) (lb:=#[.pointer (some ⟨Wa.heap.size,0,none⟩)]) rfl trivial (enters_of Tryz.func99 (by kernel_rfl) rfl) (encs:=topE0 (w.heap.size+1+1)) (Kp:=(Kq w.heap.size (WL.heap.size+2) (fun t=>t=27))) Kq.trans (fun A o o' ho hc=>Kq.put o' (by omega) (by omega) ho hc)
  (Ok:=fun pre x _=>x=pre.length∧x<14) (S:=fun xs=>xs=List.range 14) (Sp:=fun _=>True)
  (fun W1 hb1 hs1=>by
   have:=tops0_goes 5 Wa.heap.size (w.heap.size+1+1) w.heap.size (WL.heap.size+2) (fun t=>t=27) (by decide) W1 (HBx.out.below hb1 HBx.out.lt);exact this)
  (fun _=>rfl) (RtI b off Ls n w) (fun c pre W=>False) (RtI.abides (by omega)) (by rintro c pre A B row h hg hr;exact h)
  (fun W' hb hs'=>I0.out W' hb (by omega))
  (fun pre x a' Wx=>∃c,a'={tmps:=#[.pointer (some ⟨b,off,none⟩),.int .i64 (n:Int),.pointer (some ⟨w.heap.size,0,none⟩),undef,.pointer (some ⟨w.heap.size+1,0,none⟩),.pointer (some ⟨w.heap.size+1+1,0,none⟩),.pointer (some ⟨c,0,none⟩),.pointer (some ⟨w.heap.size+1+1,1+x,none⟩),.int .i64 (n:Int),.agg #[.int .i64 (n:Int),.int .i64 0,.int .i64 0,.int .i64 0,.int .i64 0,.int .i64 0,.int .i64 0,.int .i64 0,.int .i64 0,.int .i64 0,.int .i64 0,.int .i64 0,.int .i64 0,.int .i64 0,.int .i64 0],.func (.func 99) #[] #[.pointer (some ⟨Wa.heap.size,0,none⟩)],spotV (topL x) (topR x),.pointer (some ⟨w.heap.size+1+1,1+x,none⟩),undef,undef,undef,undef,undef,undef],defers:=[]}∧Blk Wx c #[.int .i64 (topL x:Int),.int .i64 (topR x:Int)] 123∧RtI b off Ls n w pre Wx∧x=pre.length∧x<14) ?ax ?assign ?body ?done ?stop
 case ax=>
  rintro pre x a' A B ⟨c,h1,h2,h3,h4⟩ hg hr;exact⟨c,h1,blk_bare h2 hg hr,RtI.abides (z:=WL.heap.size+1) (by omega) pre A B _ h3 hg (fun r e=>by cases e;exact⟨Nat.le_refl _,hr⟩),h4⟩
 case assign=>
  rintro l pre x Wx K hI hok hK;have HKx:=hide (And.intro hI (And.intro hok hK));clear hI hok hK;unfold topE0;gi_wp2
  have bA:Below Wx.heap.size Wx (Wx.alloc (.cells #[.int .i64 (topL x:Int),.int .i64 (topR x:Int)] 123)):=(Below.refl _ _).alloc (Nat.le_refl _) _;have gA:Wx.grownBy (Wx.alloc (.cells #[.int .i64 (topL x:Int),.int .i64 (topR x:Int)] 123)) none:=⟨bA.os,bA.tape,bA.output,bA.size,fun k hk _=>bA.block k hk⟩;exact HKx.out.2.2 _ _ (keeps_belowT bA) (Kq.of_below bA (by have:=HKx.out.1.size;omega)) ⟨_,rfl,Blk.new _ _ _,RtI.abides (z:=w.heap.size) (Nat.le_refl _) pre _ _ none HKx.out.1 gA (fun r e=>by cases e),HKx.out.2.1⟩
 case body=>
  rintro l pre x a' Wx ⟨c,rfl,kc,hI,hx,hx14⟩;have HX:=hide (And.intro hI (And.intro kc hx));have HRg:=hide (blk_twoY kc);have c0:=(hI.bp.cell 0).trans (show _=some (.pointer (some ⟨b,off,none⟩)) from rfl);clear hI kc hx;gi_wp2_with (first
   |(refine wpListIn_load_mid rfl 123 _ rfl c 0 rfl [.int .i64 (topL x:Int),.int .i64 (topR x:Int)] _ HRg.out Tryz.underlying123 rfl infoSp ?_)
   |(refine⟨trivial,?_⟩;gi_at_call 69;refine(CallsIn.inRound l (callsIn_wide.2 (atS_any b off (topL x) (topR x) C t sl Ls base _ (HN.out.below HX.out.1.low) (by have:=topL_le x;omega) (Nat.le_trans (firI_le _ _) (topF_le hx14))))).mono ?_;rintro e w9 ⟨rfl,b9⟩;have H9:=hide b9;clear b9;have k9:Blk w9 (w.heap.size+1+1) (rootC Ls n pre.length) 27:=HX.out.1.bx.below H9.out HX.out.1.bx.lt;have c9:=k9.cell (1+x);have f9:=k9.frozen (1+x);rw[Array.getElem?_eq_getElem (by rw[rootC_size];omega)] at c9;have K9:=hide k9;clear k9))
  clear c9 f9;have kF:∀z,Kq w.heap.size z (fun t=>t=27) Wx (w9.setCell ⟨w.heap.size+1+1,1+x,none⟩ (.int .i64 ((Ls (topL x)).getD (topR x) 0))):=fun z=>(Kq.of_below H9.out (by have:=HX.out.1.size;omega)).trans (Kq.setC K9.out rfl (by omega));have hne1:w.heap.size≠w.heap.size+1+1:=by omega
  have hne2:w.heap.size+1≠w.heap.size+1+1:=by omega
  have HNx:=hide (show RtI b off Ls n w (pre++[x]) (w9.setCell ⟨w.heap.size+1+1,1+x,none⟩ (.int .i64 ((Ls (topL x)).getD (topR x) 0))) from⟨by rw[List.length_append,List.length_singleton, ←HX.out.2.2];omega,(HX.out.1.bp.below H9.out HX.out.1.bp.lt).other _ _ hne1,(HX.out.1.br.below H9.out HX.out.1.br.lt).other _ _ hne2,by
   have:=K9.out.set (1+x) (.int .i64 (numAt Ls x));rw[←HX.out.2.2,rootC_set Ls n x hx14] at this;rw[List.length_append,List.length_singleton, ←HX.out.2.2];exact this,HX.out.1.low.trans (kF 0).below,Nat.le_trans HX.out.1.size (kF 0).size⟩)
  exact⟨(kF _).keepsZ,kF _,HNx.out⟩
 case done=>
  rintro xs Wx hS hI hK;subst hS;have hx:=hI.bx;rw[List.length_range] at hx;have HX:=hide (And.intro hx (And.intro hI.br (And.intro hI.low hK)));obtain⟨RF,hRF⟩:∃RF,RF=rootC Ls n 14:=⟨_,rfl⟩;rw[←hRF] at HX;have HRF:=hide hRF;have HIn:=hide (show(Tryz.prog.info? 27).map (·.size)=some RF.size from by rw[hRF,rootC_size];exact infoRtY);have HO:=hide (show RF.all (·.oneCell')=true from by rw[hRF];exact i64_one _);have HSz:=hide (show(cellsI (List.replicate 15 0)).size=RF.size from by rw[hRF,rootC_size];rfl);clear hI hK hx hRF;gi_upto_region 6 with fail
  refine wpIn_wide.2 ?_;go_wp2_with (first
   |(refine wpList_load_row rfl 27 _ rfl (w.heap.size+1+1) rfl 27 RF (0,0) _ HX.out.1 Tryz.underlying27 rfl HIn.out ?_)
   |(refine wpList_store_row rfl 27 _ _ rfl (w.heap.size+1) RF rfl rfl 27 (cellsI (List.replicate 15 0)) HX.out.2.1 HIn.out HSz.out HO.out ?_))
  gi_wp2
  have hD:(Wx.setRow (w.heap.size+1) RF).heap[WL.heap.size]?=some (.deferred (some [])):=(setRow_other Wx (w.heap.size+1) WL.heap.size RF (by omega)).trans HX.out.2.2.2;have hg:Blk (Wx.setRow (w.heap.size+1) RF) (w.heap.size+1) RF 27:=HX.out.2.1.row _;have hbE:Below w.heap.size w (Wx.setRow (w.heap.size+1) RF):=below_setRow HX.out.2.2.1 (by omega) _;refine⟨by simp,.inl ⟨_,_,rfl,run_takeDeferred hD,?_⟩⟩;refine⟨_,results_cell_row rfl _ _ (w.heap.size+1) 27 _ (0,0) _ rfl (blk_put _ hg hD rfl) Tryz.underlying27 rfl HIn.out,by rw[HRF.out],?_⟩;exact hbE.trans (belowK_b (w:=w) (Nat.le_refl _) _ WL.heap.size _ (.deferred none) (by omega) hD rfl rfl)
 case stop=>
  rintro c pre W _ hf;exact hf.elim
end
section
open Go.RowKit Go.Shelf
def gN(N:Nat→List Int)(n:Nat):Nat→Int:=rootN (n:Int) (dsN N) ((N 1).getD 0 0) ((N 2).getD 0 0)
theorem rootC_Y(N:Nat→List Int)(n:Nat):rootC N n 14=rootY (gN N n):=by
 unfold gN;rw[←root_cells _ _ _ _ (dsN_len N)];rfl
theorem gN_same{N N':Nat→List Int}(h:∀l r,l<3→(N l).getD r 0=(N' l).getD r 0)(n:Nat):gN N n=gN N' n:=by
 unfold gN;have e:dsN N=dsN N':=by
  unfold dsN;exact List.map_congr_left (fun i _=>h 0 i (by omega))
 rw[e,h 1 0 (by omega),h 2 0 (by omega)]
theorem gN_zero:rootY (gN (fun _=>[]) 0)=rootZ:=rfl
theorem run_len(img cs:List Int):∀(Q:List (Nat×Nat)) (D:RD),(∀p∈Q,p.2<513)→(∀l,((runO img cs Q D).Ln l).length≤max (D.Ln l).length 513)∧(runO img cs Q D).P.length≤D.P.length+Q.length
 |[],D,_=>⟨fun l=>by show(D.Ln l).length≤_;omega,by show D.P.length≤_;omega⟩
 |p::Q,D,h=>by
  obtain⟨h1,h2⟩:=run_len img cs Q (stepO img cs D p) (fun q hq=>h q (List.mem_cons_of_mem _ hq));have hp:=h p List.mem_cons_self;rw[run_cons];refine⟨fun l=>?_,?_⟩
  ·have h3:=h1 l;have h4:((stepO img cs D p).Ln l).length≤max (D.Ln l).length 513:=by
    unfold stepO;rw[placeO_len];split
    ·rename_i e;subst e;omega
    ·omega
   omega
  ·have h4:(stepO img cs D p).P.length≤D.P.length+1:=by
    unfold stepO;rw[placeO_P];split
    ·omega
    ·simp
   rw[List.length_cons];omega
theorem sp_len{cnt:Nat}(h:cnt≤512):(∀p∈spL cnt,p.2<513)∧(spL cnt).length≤600:=by
 refine⟨fun p hp=>?_,?_⟩
 ·obtain⟨l,r⟩:=p;obtain⟨h1,h2⟩:=sp_mem.1 hp;simp only at h1 h2⊢;match l,h1,h2 with
  |0,_,h2=>rw[lv0] at h2;omega
  |1,_,h2=>rw[lv1] at h2;omega
  |2,_,h2=>rw[lv2] at h2;split at h2<;>omega
 ·unfold spL;simp only[List.length_append,List.length_map,List.length_range,lv0,lv1,lv2];split<;>omega
theorem beg_of{zs co:List Int}{No:Nat→List Int}(hT:TreeAt zs co No)(iv cv:Value)(g:Nat→Int)(st:Option (List Int)):BegO (rDO iv cv g (numL (upX (lsT zs co No))) st) No:=
 ⟨fun l r=>hT.num l r,rfl,rfl,rfl⟩
theorem run_fits(zs cs:List Int){cnt:Nat}(h:cnt≤512)(iv cv:Value)(g:Nat→Int)(Lo:Nat→List Int)(st:Option (List Int)):(∀l,((runO zs cs (spL cnt) (rDO iv cv g Lo st)).Ln l).length≤513)∧(runO zs cs (spL cnt) (rDO iv cv g Lo st)).P.length≤600:=by
 obtain⟨h1,h2⟩:=sp_len h;obtain⟨h3,h4⟩:=run_len zs cs (spL cnt) (rDO iv cv g Lo st) h1;refine⟨fun l=>?_,?_⟩
 ·have h5:=h3 l;have h6:((rDO iv cv g Lo st).Ln l).length=0:=rfl;omega
 ·have h5:(rDO iv cv g Lo st).P.length=0:=rfl;omega
theorem renewT_any(W0 w:World)(ia ca:Option Addr)(il ic n cc cnt ff:Nat)(lb:Array Value)(zs cs co:List Int)(No:Nat→List Int)(st:Option (List Int))(D:RD)
 (hb:Below W0.heap.size W0 w) (hi:Rd .u8 W0 (.slice ia il ic) zs) (hz:zs.length≤1048576) (hbd:∀z∈zs,0≤z∧z<256) (hT:TreeAt zs co No)
 (hR:Rd .u8 W0 (.slice ca n cc) cs) (hn:n=cs.length) (hcs:cs.length≤262144) (hcnt:cnt=cntT cs) (hg:ErrT W0) (hsup:Sup W0 w (.func (.func ff) #[] lb) st)
 (hD:D=runO zs cs (spL cnt) (rDO (.slice ia il ic) (.slice ca n cc) (gN No co.length) (numL (upX (lsT zs co No))) st)):
 Calls Tryz.prog 34 #[.slice ia il ic,.agg (rootY (gN No co.length)),.slice ca n cc,.func (.func ff) #[] lb] w fun e w'=>((D.sh=false∧∃b,e=.returned (.tuple #[.pointer (some ⟨b,0,none⟩),.nilIface])∧RSt W0 w' b D)∨(D.sh=true∧∃ev,e=.returned (.tuple #[.pointer none,ev])∧Flt w' W0.heap.size 0 ev 9))∧Below W0.heap.size W0 w':=by
 have hc:cnt≤512:=by rw[hcnt];unfold cntT;omega
 refine renewO_any W0 w ia ca il ic n cc cnt ff lb zs cs (co.length:Int) (dsN No) ((No 1).getD 0 0) ((No 2).getD 0 0) (gN No co.length) _ _ _ _ st D hb hi hz hbd hT.ok (dsN_len No) rfl ⟨by omega,by have:=hT.cl;omega⟩ (by rw[hT.zr]) (by rw[hT.zr]) rfl rfl rfl (fun l r h=>?_) hR hn hcs (by rw[hcnt,hn];rfl) hg hsup (by rw[hD,rEO_run _ _ hc]);rw[hT.num] at h⊢;split at h
 ·have hbig:=hT.big;rcases hT.rng l r with e|⟨h1,h2⟩
  ·exact absurd e h
  ·rw[if_pos (by assumption)];exact⟨((No l).getD r 0).toNat,by omega,by omega⟩
 ·exact absurd rfl h
theorem renewT_ok(W0 w:World)(ia ca:Option Addr)(il ic n cc cnt ff:Nat)(lb:Array Value)(zs cs co:List Int)(No:Nat→List Int)(st:Option (List Int))(D:RD)
 (hb:Below W0.heap.size W0 w) (hi:Rd .u8 W0 (.slice ia il ic) zs) (hz:zs.length≤1048576) (hbd:∀z∈zs,0≤z∧z<256) (hT:TreeAt zs co No)
 (hR:Rd .u8 W0 (.slice ca n cc) cs) (hn:n=cs.length) (hcs:cs.length≤262144) (hcnt:cnt=cntT cs) (hg:ErrT W0) (hsup:Sup W0 w (.func (.func ff) #[] lb) st)
 (hD:D=runO zs cs (spL cnt) (rDO (.slice ia il ic) (.slice ca n cc) (gN No co.length) (numL (upX (lsT zs co No))) st)) (hsh:D.sh=false):
 Calls Tryz.prog 34 #[.slice ia il ic,.agg (rootY (gN No co.length)),.slice ca n cc,.func (.func ff) #[] lb] w fun e w'=>∃b,e=.returned (.tuple #[.pointer (some ⟨b,0,none⟩),.nilIface])∧RSt W0 w' b D:=by
 refine(renewT_any W0 w ia ca il ic n cc cnt ff lb zs cs co No st D hb hi hz hbd hT hR hn hcs hcnt hg hsup hD).mono ?_;rintro e w' ⟨⟨_,b,h1,h2⟩|⟨h1,_⟩,_⟩
 ·exact⟨b,h1,h2⟩
 ·rw[hsh] at h1;cases h1
theorem renewT_bad(W0 w:World)(ia ca:Option Addr)(il ic n cc cnt ff:Nat)(lb:Array Value)(zs cs co:List Int)(No:Nat→List Int)(st:Option (List Int))(D:RD)
 (hb:Below W0.heap.size W0 w) (hi:Rd .u8 W0 (.slice ia il ic) zs) (hz:zs.length≤1048576) (hbd:∀z∈zs,0≤z∧z<256) (hT:TreeAt zs co No)
 (hR:Rd .u8 W0 (.slice ca n cc) cs) (hn:n=cs.length) (hcs:cs.length≤262144) (hcnt:cnt=cntT cs) (hg:ErrT W0) (hsup:Sup W0 w (.func (.func ff) #[] lb) st)
 (hD:D=runO zs cs (spL cnt) (rDO (.slice ia il ic) (.slice ca n cc) (gN No co.length) (numL (upX (lsT zs co No))) st)) (hsh:D.sh=true):
 Calls Tryz.prog 34 #[.slice ia il ic,.agg (rootY (gN No co.length)),.slice ca n cc,.func (.func ff) #[] lb] w fun e w'=>∃ev,e=.returned (.tuple #[.pointer none,ev])∧Flt w' W0.heap.size 0 ev 9∧Below W0.heap.size W0 w':=by
 refine(renewT_any W0 w ia ca il ic n cc cnt ff lb zs cs co No st D hb hi hz hbd hT hR hn hcs hcnt hg hsup hD).mono ?_;rintro e w' ⟨⟨h1,_⟩|⟨_,ev,h1,h2⟩,h3⟩
 ·rw[hsh] at h1;cases h1
 ·exact⟨ev,h1,h2,h3⟩
end
section
open Go.RowKit
def allZ(ts:List Int):Bool:=ts.all fun z=>decide (z=0)
theorem allZ_snoc(ts:List Int)(k:Nat)(hk:k<ts.length):allZ (ts.take (k+1))=(allZ (ts.take k)&&decide (ts.getD k 0=0)):=by
 unfold allZ;rw[List.take_succ_eq_append_getElem hk,List.all_append];simp[List.getD,hk]
theorem allZ_no(ts:List Int)(k:Nat)(hk:k<ts.length)(h:ts.getD k 0≠0):allZ ts=false:=by
 cases hz:allZ ts with
 |false=>rfl
 |true=>
  unfold allZ at hz;rw[List.all_eq_true] at hz;exact absurd (of_decide_eq_true (hz (ts.getD k 0) (by simp[List.getD,hk]))) h
theorem zeroBytes_any(v:Value)(ts:List Int)(w:World)(h:Rd .u8 w v ts):
 Calls Tryz.prog 58 #[v] w fun e w'=>e=.returned (.bool (allZ ts))∧w'=w:=by
 have hm:=h.len;unfold maxLen at hm;rcases h.parts with⟨a,cap,rfl,hlow⟩|⟨b,off,cap,rfl,hbw,hcell⟩;all_goals
  clear h;go_enter Tryz.func58,Tryz.ntmps58;go_wp2;go_loop [7] (fun i=>∃k:Nat,k≤ts.length∧i=.int .i64 k∧allZ (ts.take k)=true) (fun i=>ts.length-(intOf i).toNat)
  case atStart=>exact⟨0,Nat.zero_le _,rfl,rfl⟩
  case round=>
   obtain⟨k,hk,rfl,he⟩:=hrel;have HE:=hide he;clear he;by_cases hlt:k<ts.length
   ·first
    |omega
    |(
     have c1:=hcell k hlt;have HN:=hide (allZ_no ts k hlt);have HS:=hide (allZ_snoc ts k hlt);clear hcell;generalize ts.getD k 0=z at c1 HN HS;by_cases hz:z=0
     ·subst hz;have HS2:=hide (show allZ (ts.take (k+1))=true from by rw[HS.out,HE.out];rfl);go_wp2;go_round
      case rel=>exact⟨k+1,by omega,by go_num,HS2.out⟩
      case measure=>simp[intOf];omega
     ·have hb:(z !=0)=true:=(by simpa using hz);have HF:=hide (HN.out hz);go_wp2;go_ret;exact⟨ret_bool (by rw[HF.out]),rfl⟩)
   ·have HF:=hide (show allZ ts=true from by have h:=HE.out;rw[List.take_of_length_le (by omega)] at h;exact h);go_wp2;go_ret;exact⟨ret_bool (by rw[HF.out]),rfl⟩
end
end Go.Proofs.YtbhpealglhkodaaGreatDoor
