/- The program's renewal: walkLevel. -/
import Derived.Test.YtbhpealglhkodaaGreatDoorXc32
import Derived.Test.YtbhpealglhkodaaGreatDoorXc33
import Derived.Test.YtbhpealglhkodaaGreatDoorXc34
namespace Go.Proofs.YtbhpealglhkodaaGreatDoor
set_option linter.all false
set_option maxRecDepth 100000
set_option maxHeartbeats 16000000
section
open Go.RowKit Go.Shelf
attribute [local go_sem] Oper.semAt_some
def levelV(cnt lvl j:Nat):List Nat:=(List.range j).flatMap (fun j=>visit cnt lvl (topL j) (topR j))
theorem levelV_succ(cnt lvl j:Nat):levelV cnt lvl (j+1)=levelV cnt lvl j++visit cnt lvl (topL j) (topR j):=by unfold levelV;rw[List.range_succ,List.flatMap_append];simp
structure LvK(n₀ b:Nat)(w0:World)(I:List Nat→World→Prop):Prop where
 ab:∀z,n₀≤z→AbidesZ z I
 bk:∀pre w,I pre w→∃C,Blk w b C 79
 own:∀pre w,I pre w→∀l,l<3→∀v g,w.cell? ⟨b,20+l,none⟩=some v→v.ownBlock=some g→g<w.heap.size
 low:∀pre w,I pre w→Below n₀ w0 w
 n₀:n₀≤w0.heap.size
structure LvI(b lvl:Nat)(lf:Value)(w:World)(cnt:Nat)(I:List Nat→World→Prop)(pre0:List Nat)(pre:List Nat)(W:World):Prop where
 inv:I (pre0++levelV cnt lvl pre.length) W
 bw:Blk W w.heap.size #[.pointer (some ⟨b,0,none⟩)] 65
 bl:Blk W (w.heap.size+1) #[.int .i64 (lvl:Int)] 3
 bf:Blk W (w.heap.size+1+1) #[lf] 114
 apt:Apt W b (w.heap.size+1)
 size:w.heap.size+7≤W.heap.size
theorem apt_abide{A B:World}{row:Option Nat}{b X z:Nat}{C:Array Value}{t:TypeId}(h:Apt A b X)(k:Blk A b C t)(hg:A.grownBy B row)(hr:∀r,row=some r→z≤r∧∃o,A.heap[r]?=some o∧o.isCells=false):Apt B b X:=fun l hl v hv=>by
 rw[(blk_abide k hg hr).cell (20+l)] at hv;exact h l hl v ((k.cell (20+l)).trans hv)
theorem LvI.abides{n₀ b lvl cnt z:Nat}{lf:Value}{w0 w:World}{I:List Nat→World→Prop}{pre0:List Nat}(k:LvK n₀ b w0 I)(hz:n₀≤z):AbidesZ z (LvI b lvl lf w cnt I pre0):=by
 intro pre A B row h hg hr;obtain⟨C,hC⟩:=k.bk _ _ h.inv;exact⟨k.ab z hz _ A B row h.inv hg hr,blk_abide h.bw hg hr,blk_abide h.bl hg hr,blk_abide h.bf hg hr,apt_abide h.apt hC hg hr,Nat.le_trans h.size hg.size⟩
theorem top_lt(j:Nat):topL j<3:=by have:=topL_le j;omega
theorem walkAll_0(cnt n b:Nat)(ca:Option Addr)(cc:Nat)(F:List Nat)(I:List Nat→World→Prop)(h:WkI 64 0 cnt n b ca cc F I)(l r:Nat)(hl:l<3)(pre:List Nat)(w:World)(hf:firI l r≤100000)(hi:I pre w)(hp:pre++visit cnt 0 l r<+:F):
 Calls Tryz.prog 86 #[.pointer (some ⟨b,0,none⟩),spotV l r,.int .i64 0,.func (.func 64) #[.pointer (some ⟨b,0,none⟩)] #[]] w fun e w'=>e=.returned (.tuple #[])∧I (pre++visit cnt 0 l r) w'∧FrR b w w':=
 match l,hl,hf,hp with
 |0,_,hf,hp=>walk_0_0 cnt n b ca cc F I h r pre w hf hi hp
 |1,_,hf,hp=>walk_0_1 cnt n b ca cc F I h r pre w hf hi hp
 |2,_,hf,hp=>walk_0_2 cnt n b ca cc F I h r pre w hf hi hp
theorem walkLevel_0(n₀ cnt n b:Nat)(ca:Option Addr)(cc:Nat)(I:List Nat→World→Prop)(w0:World)(pre0:List Nat)(h:WkI 64 0 cnt n b ca cc (pre0++levelV cnt 0 14) I)(k:LvK n₀ b w0 I)(w:World)(hi:I pre0 w):
 Calls Tryz.prog 63 #[.pointer (some ⟨b,0,none⟩),.int .i64 0,.func (.func 64) #[.pointer (some ⟨b,0,none⟩)] #[]] w fun e w'=>e=.returned (.tuple #[])∧I (pre0++levelV cnt 0 14) w':=by
 have H:=hide h;have HK:=hide k;have HI:=hide hi;have hn0:n₀≤w.heap.size:=Nat.le_trans k.n₀ (k.low _ _ hi).size;obtain⟨Wa,hWa⟩:∃Wa,Wa=(((w.alloc (.cells #[.pointer (some ⟨b,0,none⟩)] 65)).alloc (.cells #[.int .i64 0] 3)).alloc (.cells #[.func (.func 64) #[.pointer (some ⟨b,0,none⟩)] #[]] 114)):=⟨_,rfl⟩;have sa:Wa.heap.size=w.heap.size+3:=by rw[hWa];simp
 have BA:=hide (show Below w.heap.size w Wa from by rw[hWa];exact((((Below.refl _ _).alloc (Nat.le_refl _) _).alloc (by simp) _).alloc (by simp;omega) _));have K0:=hide (show Blk Wa w.heap.size #[.pointer (some ⟨b,0,none⟩)] 65 from by rw[hWa];exact((Blk.new w _ _).alloc _).alloc _);have K1:=hide (show Blk Wa (w.heap.size+1) #[.int .i64 0] 3 from by have h:=Blk.new (w.alloc (.cells #[.pointer (some ⟨b,0,none⟩)] 65)) #[.int .i64 0] 3;rw[World.size_alloc] at h;rw[hWa];exact h.alloc _);have K2:=hide (show Blk Wa (w.heap.size+1+1) #[.func (.func 64) #[.pointer (some ⟨b,0,none⟩)] #[]] 114 from by have h:=Blk.new ((w.alloc (.cells #[.pointer (some ⟨b,0,none⟩)] 65)).alloc (.cells #[.int .i64 0] 3)) #[.func (.func 64) #[.pointer (some ⟨b,0,none⟩)] #[]] 114;rw[World.size_alloc,World.size_alloc] at h;rw[hWa];exact h);have HBl:=hide (show b<w.heap.size from by obtain⟨C,hC⟩:=k.bk _ _ hi;exact hC.lt);have HAp:=hide (show ∀W',Below w.heap.size w W'→Apt W' b (w.heap.size+1) from fun W' hb l hl v hv e=>by
  have:=k.own _ _ hi l hl v (w.heap.size+1) ((hb.cell (p:=⟨b,20+l,none⟩) HBl.out).symm.trans hv) e;omega)
 obtain⟨RZ,hRZ⟩:∃RZ,RZ=(#[.int .i64 0,.int .i64 0,.int .i64 0,.int .i64 0,.int .i64 0,.int .i64 0,.int .i64 0,.int .i64 0,.int .i64 0,.int .i64 0,.int .i64 0,.int .i64 0,.int .i64 0,.int .i64 0,.int .i64 0]:Array Value):=⟨_,rfl⟩;obtain⟨WL,hWL⟩:∃WL,WL=(Wa.alloc (.cells RZ 27)).alloc (.cells #[.pointer (some ⟨Wa.heap.size,0,none⟩)] 121):=⟨_,rfl⟩;have hsL:WL.heap.size=w.heap.size+5:=by rw[hWL];simp[sa]
 have BL:=hide (show Below Wa.heap.size Wa WL from by rw[hWL];exact((Below.refl _ _).alloc (Nat.le_refl _) _).alloc (by simp) _);have HBx:=hide (show Blk WL (Wa.heap.size+1) #[.pointer (some ⟨Wa.heap.size,0,none⟩)] 121 from by have h:=Blk.new (Wa.alloc (.cells RZ 27)) #[.pointer (some ⟨Wa.heap.size,0,none⟩)] 121;rw[World.size_alloc] at h;rw[hWL];exact h);have I0:=hide (show ∀W',Below WL.heap.size WL W'→WL.heap.size+2≤W'.heap.size→LvI b 0 (.func (.func 64) #[.pointer (some ⟨b,0,none⟩)] #[]) w cnt I pre0 [] W' from fun W' hb hs'=>by
  have hb0:Below Wa.heap.size Wa W':=BL.out.trans (hb.mono (by omega));have hb1:Below w.heap.size w W':=BA.out.trans (hb0.mono (by omega));exact⟨by simpa [levelV] using h.bel _ _ _ hi hb1,K0.out.below hb0 K0.out.lt,K1.out.below hb0 K1.out.lt,K2.out.below hb0 K2.out.lt,HAp.out W' hb1,by omega⟩)
 have HWa:=hide hWa;have HWL:=hide hWL;have HRZ:=hide hRZ;have hsa1:Wa.heap.size≤w.heap.size+3:=by omega
 have hsa2:w.heap.size+3≤Wa.heap.size:=by omega
 have hsL1:WL.heap.size≤w.heap.size+5:=by omega
 have hsL2:w.heap.size+5≤WL.heap.size:=by omega
 clear h k hi hWa hWL hRZ sa hsL;refine(callsIn_wide (n:=6)).1 ?_;refine callsIn_of_wp_marks Tryz.func63 rfl trivial ?_ rfl;simp only[Tryz.ntmps63,List.size_toArray,List.length_cons,List.length_nil,Nat.reduceAdd,Nat.reduceSub,Array.replicate_succ,Array.replicate_zero,List.push_toArray,List.append_toArray,List.nil_append,List.cons_append];gi_upto_region 1 with fail
 rw[←HWa.out];refine wpIn_wide.2 ?_;go_wp2_with (first
  |(go_at_call 68;refine(callsIn_wide.1 (tops0_in 0 _ _)).mono ?_;rintro e w' ⟨rfl,rfl⟩))
 gi_wp2
 rw[←HRZ.out, ←HWL.out];have hmx:Tryz.prog.follows .mixedOrders=true:=by kernel_rfl
 refine wpIn_rangeGoesK (α:=Nat) rfl (by decide) (gf:=99) (lb:=#[.pointer (some ⟨Wa.heap.size+1,0,none⟩)]) rfl trivial (enters_of Tryz.func99 (by kernel_rfl) rfl) (encs:=topE0 Wa.heap.size) (Kp:=(Kq n₀ (WL.heap.size+2) TyR)) Kq.trans (fun A o o' ho hc=>Kq.put o' (by omega) (by omega) ho hc)
  (Ok:=fun pre x _=>x=pre.length∧x<14) (S:=fun xs=>xs=List.range 14) (Sp:=fun _=>True)
  (fun W1 hb1 hs1=>by
   have:=tops0_goes 5 (Wa.heap.size+1) Wa.heap.size n₀ (WL.heap.size+2) TyR (by unfold TyR;decide) W1 (HBx.out.below hb1 HBx.out.lt);exact this)
  (fun _=>rfl) (LvI b 0 (.func (.func 64) #[.pointer (some ⟨b,0,none⟩)] #[]) w cnt I pre0) (fun c pre W=>False) (LvI.abides HK.out (by omega)) (by rintro c pre A B row h hg hr;exact h)
  (fun W' hb hs'=>I0.out W' hb (by omega))
  (fun pre x a' Wx=>∃c,a'={tmps:=#[.pointer (some ⟨b,0,none⟩),.int .i64 0,.func (.func 64) #[.pointer (some ⟨b,0,none⟩)] #[],.pointer (some ⟨w.heap.size,0,none⟩),.pointer (some ⟨w.heap.size+1,0,none⟩),.pointer (some ⟨w.heap.size+1+1,0,none⟩),.pointer (some ⟨c,0,none⟩),.agg RZ,.pointer (some ⟨Wa.heap.size,0,none⟩),.func (.func 99) #[] #[.pointer (some ⟨Wa.heap.size+1,0,none⟩)],spotV (topL x) (topR x),.pointer (some ⟨Wa.heap.size,1+x,none⟩),undef,undef,undef,undef,undef],defers:=[]}∧Blk Wx c #[.int .i64 (topL x:Int),.int .i64 (topR x:Int)] 123∧LvI b 0 (.func (.func 64) #[.pointer (some ⟨b,0,none⟩)] #[]) w cnt I pre0 pre Wx∧x=pre.length∧x<14) ?ax ?assign ?body ?done ?stop
 case ax=>
  rintro pre x a' A B ⟨c,h1,h2,h3,h4⟩ hg hr;exact⟨c,h1,blk_bare h2 hg hr,LvI.abides HK.out (z:=WL.heap.size+1) (by omega) pre A B _ h3 hg (fun r e=>by cases e;exact⟨Nat.le_refl _,hr⟩),h4⟩
 case assign=>
  rintro l pre x Wx K hI hok hK;have HKx:=hide (And.intro hI (And.intro hok hK));clear hI hok hK;unfold topE0;gi_wp2
  have bA:Below Wx.heap.size Wx (Wx.alloc (.cells #[.int .i64 (topL x:Int),.int .i64 (topR x:Int)] 123)):=(Below.refl _ _).alloc (Nat.le_refl _) _;have gA:Wx.grownBy (Wx.alloc (.cells #[.int .i64 (topL x:Int),.int .i64 (topR x:Int)] 123)) none:=⟨bA.os,bA.tape,bA.output,bA.size,fun k hk _=>bA.block k hk⟩;exact HKx.out.2.2 _ _ (keeps_belowT bA) (Kq.of_below bA (by have:=HKx.out.1.size;omega)) ⟨_,rfl,Blk.new _ _ _,LvI.abides HK.out (z:=n₀) (Nat.le_refl _) pre _ _ none HKx.out.1 gA (fun r e=>by cases e),HKx.out.2.1⟩
 case body=>
  rintro l pre x a' Wx ⟨c,rfl,kc,hI,hx,hx14⟩;have HX:=hide (And.intro hI (And.intro kc hx));have HRg:=hide (blk_two kc);have c0:=(hI.bw.cell 0).trans (show _=some (.pointer (some ⟨b,0,none⟩)) from rfl);have c1:=(hI.bl.cell 0).trans (show _=some (.int .i64 0) from rfl);have c2:=(hI.bf.cell 0).trans (show _=some (.func (.func 64) #[.pointer (some ⟨b,0,none⟩)] #[]) from rfl);clear hI kc hx;gi_wp2_with (first
   |(refine wpListIn_load_mid rfl 123 _ rfl c 0 rfl [.int .i64 (topL x:Int),.int .i64 (topR x:Int)] _ HRg.out Tryz.underlying123 rfl infoSp ?_)
   |(refine⟨trivial,?_⟩;gi_at_call 86;refine(CallsIn.inRound l (callsIn_wide.2 (walkAll_0 cnt n b ca cc _ I H.out (topL x) (topR x) (top_lt x) _ _ (topF_le hx14) HX.out.1.inv (by rw[←HX.out.2.2];exact flat_pre (f:=fun j=>visit cnt 0 (topL j) (topR j)) hx14 (List.prefix_refl _))))).mono ?_;rintro e w9 ⟨rfl,i9,y9⟩;have H9:=hide (And.intro i9 y9);clear i9 y9))
  have kF:∀z,Kq n₀ z TyR Wx w9:=fun z=>H9.out.2.kq (HK.out.low _ _ HX.out.1.inv) (HK.out.low _ _ H9.out.1);have hf:=H9.out.2.2.1 (by obtain⟨C,hC⟩:=HK.out.bk _ _ HX.out.1.inv;exact hC.lt);have hx2:=hf.2 _ _ HX.out.1.bl HX.out.1.apt;have HN:=hide (show LvI b 0 (.func (.func 64) #[.pointer (some ⟨b,0,none⟩)] #[]) w cnt I pre0 (pre++[x]) w9 from⟨by rw[List.length_append,List.length_singleton,levelV_succ, ←List.append_assoc, ←HX.out.2.2];have:=H9.out.1;rw[←HX.out.2.2] at this;exact this,H9.out.2.blk HX.out.1.bw (by unfold TyR;decide),hx2.1,H9.out.2.blk HX.out.1.bf (by unfold TyR;decide),hx2.2,Nat.le_trans HX.out.1.size (kF 0).size⟩);exact⟨(kF _).keepsZ,kF _,HN.out⟩
 case done=>
  rintro xs Wx hS hI hK;subst hS;have HD:=hide (And.intro hI.inv hK);clear hI hK;gi_wp2
  have hD:=HD.out.2;refine⟨by simp,.inl ⟨_,_,rfl,run_takeDeferred hD,?_⟩⟩;refine⟨_,results_none rfl _ _ _,rfl,?_⟩;have:=HK.out.ab n₀ (Nat.le_refl _) _ Wx (Wx.putObj WL.heap.size (.deferred none)) (some WL.heap.size) HD.out.1 (grownBy_putObj' _ _ _) (fun r e=>by cases e;exact⟨by omega,_,hD,rfl⟩);simpa using this
 case stop=>
  rintro c pre W _ hf;exact hf.elim
theorem walkAll_1(cnt n b:Nat)(ca:Option Addr)(cc:Nat)(F:List Nat)(I:List Nat→World→Prop)(h:WkI 65 1 cnt n b ca cc F I)(l r:Nat)(hl:l<3)(pre:List Nat)(w:World)(hf:firI l r≤100000)(hi:I pre w)(hp:pre++visit cnt 1 l r<+:F):
 Calls Tryz.prog 86 #[.pointer (some ⟨b,0,none⟩),spotV l r,.int .i64 1,.func (.func 65) #[.pointer (some ⟨b,0,none⟩)] #[]] w fun e w'=>e=.returned (.tuple #[])∧I (pre++visit cnt 1 l r) w'∧FrR b w w':=
 match l,hl,hf,hp with
 |0,_,hf,hp=>walk_1_0 cnt n b ca cc F I h r pre w hf hi hp
 |1,_,hf,hp=>walk_1_1 cnt n b ca cc F I h r pre w hf hi hp
 |2,_,hf,hp=>walk_1_2 cnt n b ca cc F I h r pre w hf hi hp
theorem walkLevel_1(n₀ cnt n b:Nat)(ca:Option Addr)(cc:Nat)(I:List Nat→World→Prop)(w0:World)(pre0:List Nat)(h:WkI 65 1 cnt n b ca cc (pre0++levelV cnt 1 14) I)(k:LvK n₀ b w0 I)(w:World)(hi:I pre0 w):
 Calls Tryz.prog 63 #[.pointer (some ⟨b,0,none⟩),.int .i64 1,.func (.func 65) #[.pointer (some ⟨b,0,none⟩)] #[]] w fun e w'=>e=.returned (.tuple #[])∧I (pre0++levelV cnt 1 14) w':=by
 have H:=hide h;have HK:=hide k;have HI:=hide hi;have hn0:n₀≤w.heap.size:=Nat.le_trans k.n₀ (k.low _ _ hi).size;obtain⟨Wa,hWa⟩:∃Wa,Wa=(((w.alloc (.cells #[.pointer (some ⟨b,0,none⟩)] 65)).alloc (.cells #[.int .i64 1] 3)).alloc (.cells #[.func (.func 65) #[.pointer (some ⟨b,0,none⟩)] #[]] 114)):=⟨_,rfl⟩;have sa:Wa.heap.size=w.heap.size+3:=by rw[hWa];simp
 have BA:=hide (show Below w.heap.size w Wa from by rw[hWa];exact((((Below.refl _ _).alloc (Nat.le_refl _) _).alloc (by simp) _).alloc (by simp;omega) _));have K0:=hide (show Blk Wa w.heap.size #[.pointer (some ⟨b,0,none⟩)] 65 from by rw[hWa];exact((Blk.new w _ _).alloc _).alloc _);have K1:=hide (show Blk Wa (w.heap.size+1) #[.int .i64 1] 3 from by have h:=Blk.new (w.alloc (.cells #[.pointer (some ⟨b,0,none⟩)] 65)) #[.int .i64 1] 3;rw[World.size_alloc] at h;rw[hWa];exact h.alloc _);have K2:=hide (show Blk Wa (w.heap.size+1+1) #[.func (.func 65) #[.pointer (some ⟨b,0,none⟩)] #[]] 114 from by have h:=Blk.new ((w.alloc (.cells #[.pointer (some ⟨b,0,none⟩)] 65)).alloc (.cells #[.int .i64 1] 3)) #[.func (.func 65) #[.pointer (some ⟨b,0,none⟩)] #[]] 114;rw[World.size_alloc,World.size_alloc] at h;rw[hWa];exact h);have HBl:=hide (show b<w.heap.size from by obtain⟨C,hC⟩:=k.bk _ _ hi;exact hC.lt);have HAp:=hide (show ∀W',Below w.heap.size w W'→Apt W' b (w.heap.size+1) from fun W' hb l hl v hv e=>by
  have:=k.own _ _ hi l hl v (w.heap.size+1) ((hb.cell (p:=⟨b,20+l,none⟩) HBl.out).symm.trans hv) e;omega)
 obtain⟨RZ,hRZ⟩:∃RZ,RZ=(#[.int .i64 0,.int .i64 0,.int .i64 0,.int .i64 0,.int .i64 0,.int .i64 0,.int .i64 0,.int .i64 0,.int .i64 0,.int .i64 0,.int .i64 0,.int .i64 0,.int .i64 0,.int .i64 0,.int .i64 0]:Array Value):=⟨_,rfl⟩;obtain⟨WL,hWL⟩:∃WL,WL=(Wa.alloc (.cells RZ 27)).alloc (.cells #[.pointer (some ⟨Wa.heap.size,0,none⟩)] 121):=⟨_,rfl⟩;have hsL:WL.heap.size=w.heap.size+5:=by rw[hWL];simp[sa]
 have BL:=hide (show Below Wa.heap.size Wa WL from by rw[hWL];exact((Below.refl _ _).alloc (Nat.le_refl _) _).alloc (by simp) _);have HBx:=hide (show Blk WL (Wa.heap.size+1) #[.pointer (some ⟨Wa.heap.size,0,none⟩)] 121 from by have h:=Blk.new (Wa.alloc (.cells RZ 27)) #[.pointer (some ⟨Wa.heap.size,0,none⟩)] 121;rw[World.size_alloc] at h;rw[hWL];exact h);have I0:=hide (show ∀W',Below WL.heap.size WL W'→WL.heap.size+2≤W'.heap.size→LvI b 1 (.func (.func 65) #[.pointer (some ⟨b,0,none⟩)] #[]) w cnt I pre0 [] W' from fun W' hb hs'=>by
  have hb0:Below Wa.heap.size Wa W':=BL.out.trans (hb.mono (by omega));have hb1:Below w.heap.size w W':=BA.out.trans (hb0.mono (by omega));exact⟨by simpa [levelV] using h.bel _ _ _ hi hb1,K0.out.below hb0 K0.out.lt,K1.out.below hb0 K1.out.lt,K2.out.below hb0 K2.out.lt,HAp.out W' hb1,by omega⟩)
 have HWa:=hide hWa;have HWL:=hide hWL;have HRZ:=hide hRZ;have hsa1:Wa.heap.size≤w.heap.size+3:=by omega
 have hsa2:w.heap.size+3≤Wa.heap.size:=by omega
 have hsL1:WL.heap.size≤w.heap.size+5:=by omega
 have hsL2:w.heap.size+5≤WL.heap.size:=by omega
 clear h k hi hWa hWL hRZ sa hsL;refine(callsIn_wide (n:=6)).1 ?_;refine callsIn_of_wp_marks Tryz.func63 rfl trivial ?_ rfl;simp only[Tryz.ntmps63,List.size_toArray,List.length_cons,List.length_nil,Nat.reduceAdd,Nat.reduceSub,Array.replicate_succ,Array.replicate_zero,List.push_toArray,List.append_toArray,List.nil_append,List.cons_append];gi_upto_region 1 with fail
 rw[←HWa.out];refine wpIn_wide.2 ?_;go_wp2_with (first
  |(go_at_call 68;refine(callsIn_wide.1 (tops0_in 0 _ _)).mono ?_;rintro e w' ⟨rfl,rfl⟩))
 gi_wp2
 rw[←HRZ.out, ←HWL.out];have hmx:Tryz.prog.follows .mixedOrders=true:=by kernel_rfl
 refine wpIn_rangeGoesK (α:=Nat) rfl (by decide) (gf:=99) (lb:=#[.pointer (some ⟨Wa.heap.size+1,0,none⟩)]) rfl trivial (enters_of Tryz.func99 (by kernel_rfl) rfl) (encs:=topE0 Wa.heap.size) (Kp:=(Kq n₀ (WL.heap.size+2) TyR)) Kq.trans (fun A o o' ho hc=>Kq.put o' (by omega) (by omega) ho hc)
  (Ok:=fun pre x _=>x=pre.length∧x<14) (S:=fun xs=>xs=List.range 14) (Sp:=fun _=>True)
  (fun W1 hb1 hs1=>by
   have:=tops0_goes 5 (Wa.heap.size+1) Wa.heap.size n₀ (WL.heap.size+2) TyR (by unfold TyR;decide) W1 (HBx.out.below hb1 HBx.out.lt);exact this)
  (fun _=>rfl) (LvI b 1 (.func (.func 65) #[.pointer (some ⟨b,0,none⟩)] #[]) w cnt I pre0) (fun c pre W=>False) (LvI.abides HK.out (by omega)) (by rintro c pre A B row h hg hr;exact h)
  (fun W' hb hs'=>I0.out W' hb (by omega))
  (fun pre x a' Wx=>∃c,a'={tmps:=#[.pointer (some ⟨b,0,none⟩),.int .i64 1,.func (.func 65) #[.pointer (some ⟨b,0,none⟩)] #[],.pointer (some ⟨w.heap.size,0,none⟩),.pointer (some ⟨w.heap.size+1,0,none⟩),.pointer (some ⟨w.heap.size+1+1,0,none⟩),.pointer (some ⟨c,0,none⟩),.agg RZ,.pointer (some ⟨Wa.heap.size,0,none⟩),.func (.func 99) #[] #[.pointer (some ⟨Wa.heap.size+1,0,none⟩)],spotV (topL x) (topR x),.pointer (some ⟨Wa.heap.size,1+x,none⟩),undef,undef,undef,undef,undef],defers:=[]}∧Blk Wx c #[.int .i64 (topL x:Int),.int .i64 (topR x:Int)] 123∧LvI b 1 (.func (.func 65) #[.pointer (some ⟨b,0,none⟩)] #[]) w cnt I pre0 pre Wx∧x=pre.length∧x<14) ?ax ?assign ?body ?done ?stop
 case ax=>
  rintro pre x a' A B ⟨c,h1,h2,h3,h4⟩ hg hr;exact⟨c,h1,blk_bare h2 hg hr,LvI.abides HK.out (z:=WL.heap.size+1) (by omega) pre A B _ h3 hg (fun r e=>by cases e;exact⟨Nat.le_refl _,hr⟩),h4⟩
 case assign=>
  rintro l pre x Wx K hI hok hK;have HKx:=hide (And.intro hI (And.intro hok hK));clear hI hok hK;unfold topE0;gi_wp2
  have bA:Below Wx.heap.size Wx (Wx.alloc (.cells #[.int .i64 (topL x:Int),.int .i64 (topR x:Int)] 123)):=(Below.refl _ _).alloc (Nat.le_refl _) _;have gA:Wx.grownBy (Wx.alloc (.cells #[.int .i64 (topL x:Int),.int .i64 (topR x:Int)] 123)) none:=⟨bA.os,bA.tape,bA.output,bA.size,fun k hk _=>bA.block k hk⟩;exact HKx.out.2.2 _ _ (keeps_belowT bA) (Kq.of_below bA (by have:=HKx.out.1.size;omega)) ⟨_,rfl,Blk.new _ _ _,LvI.abides HK.out (z:=n₀) (Nat.le_refl _) pre _ _ none HKx.out.1 gA (fun r e=>by cases e),HKx.out.2.1⟩
 case body=>
  rintro l pre x a' Wx ⟨c,rfl,kc,hI,hx,hx14⟩;have HX:=hide (And.intro hI (And.intro kc hx));have HRg:=hide (blk_two kc);have c0:=(hI.bw.cell 0).trans (show _=some (.pointer (some ⟨b,0,none⟩)) from rfl);have c1:=(hI.bl.cell 0).trans (show _=some (.int .i64 1) from rfl);have c2:=(hI.bf.cell 0).trans (show _=some (.func (.func 65) #[.pointer (some ⟨b,0,none⟩)] #[]) from rfl);clear hI kc hx;gi_wp2_with (first
   |(refine wpListIn_load_mid rfl 123 _ rfl c 0 rfl [.int .i64 (topL x:Int),.int .i64 (topR x:Int)] _ HRg.out Tryz.underlying123 rfl infoSp ?_)
   |(refine⟨trivial,?_⟩;gi_at_call 86;refine(CallsIn.inRound l (callsIn_wide.2 (walkAll_1 cnt n b ca cc _ I H.out (topL x) (topR x) (top_lt x) _ _ (topF_le hx14) HX.out.1.inv (by rw[←HX.out.2.2];exact flat_pre (f:=fun j=>visit cnt 1 (topL j) (topR j)) hx14 (List.prefix_refl _))))).mono ?_;rintro e w9 ⟨rfl,i9,y9⟩;have H9:=hide (And.intro i9 y9);clear i9 y9))
  have kF:∀z,Kq n₀ z TyR Wx w9:=fun z=>H9.out.2.kq (HK.out.low _ _ HX.out.1.inv) (HK.out.low _ _ H9.out.1);have hf:=H9.out.2.2.1 (by obtain⟨C,hC⟩:=HK.out.bk _ _ HX.out.1.inv;exact hC.lt);have hx2:=hf.2 _ _ HX.out.1.bl HX.out.1.apt;have HN:=hide (show LvI b 1 (.func (.func 65) #[.pointer (some ⟨b,0,none⟩)] #[]) w cnt I pre0 (pre++[x]) w9 from⟨by rw[List.length_append,List.length_singleton,levelV_succ, ←List.append_assoc, ←HX.out.2.2];have:=H9.out.1;rw[←HX.out.2.2] at this;exact this,H9.out.2.blk HX.out.1.bw (by unfold TyR;decide),hx2.1,H9.out.2.blk HX.out.1.bf (by unfold TyR;decide),hx2.2,Nat.le_trans HX.out.1.size (kF 0).size⟩);exact⟨(kF _).keepsZ,kF _,HN.out⟩
 case done=>
  rintro xs Wx hS hI hK;subst hS;have HD:=hide (And.intro hI.inv hK);clear hI hK;gi_wp2
  have hD:=HD.out.2;refine⟨by simp,.inl ⟨_,_,rfl,run_takeDeferred hD,?_⟩⟩;refine⟨_,results_none rfl _ _ _,rfl,?_⟩;have:=HK.out.ab n₀ (Nat.le_refl _) _ Wx (Wx.putObj WL.heap.size (.deferred none)) (some WL.heap.size) HD.out.1 (grownBy_putObj' _ _ _) (fun r e=>by cases e;exact⟨by omega,_,hD,rfl⟩);simpa using this
 case stop=>
  rintro c pre W _ hf;exact hf.elim
theorem walkAll_2(cnt n b:Nat)(ca:Option Addr)(cc:Nat)(F:List Nat)(I:List Nat→World→Prop)(h:WkI 65 2 cnt n b ca cc F I)(l r:Nat)(hl:l<3)(pre:List Nat)(w:World)(hf:firI l r≤100000)(hi:I pre w)(hp:pre++visit cnt 2 l r<+:F):
 Calls Tryz.prog 86 #[.pointer (some ⟨b,0,none⟩),spotV l r,.int .i64 2,.func (.func 65) #[.pointer (some ⟨b,0,none⟩)] #[]] w fun e w'=>e=.returned (.tuple #[])∧I (pre++visit cnt 2 l r) w'∧FrR b w w':=
 match l,hl,hf,hp with
 |0,_,hf,hp=>walk_2_0 cnt n b ca cc F I h r pre w hf hi hp
 |1,_,hf,hp=>walk_2_1 cnt n b ca cc F I h r pre w hf hi hp
 |2,_,hf,hp=>walk_2_2 cnt n b ca cc F I h r pre w hf hi hp
theorem walkLevel_2(n₀ cnt n b:Nat)(ca:Option Addr)(cc:Nat)(I:List Nat→World→Prop)(w0:World)(pre0:List Nat)(h:WkI 65 2 cnt n b ca cc (pre0++levelV cnt 2 14) I)(k:LvK n₀ b w0 I)(w:World)(hi:I pre0 w):
 Calls Tryz.prog 63 #[.pointer (some ⟨b,0,none⟩),.int .i64 2,.func (.func 65) #[.pointer (some ⟨b,0,none⟩)] #[]] w fun e w'=>e=.returned (.tuple #[])∧I (pre0++levelV cnt 2 14) w':=by
 have H:=hide h;have HK:=hide k;have HI:=hide hi;have hn0:n₀≤w.heap.size:=Nat.le_trans k.n₀ (k.low _ _ hi).size;obtain⟨Wa,hWa⟩:∃Wa,Wa=(((w.alloc (.cells #[.pointer (some ⟨b,0,none⟩)] 65)).alloc (.cells #[.int .i64 2] 3)).alloc (.cells #[.func (.func 65) #[.pointer (some ⟨b,0,none⟩)] #[]] 114)):=⟨_,rfl⟩;have sa:Wa.heap.size=w.heap.size+3:=by rw[hWa];simp
 have BA:=hide (show Below w.heap.size w Wa from by rw[hWa];exact((((Below.refl _ _).alloc (Nat.le_refl _) _).alloc (by simp) _).alloc (by simp;omega) _));have K0:=hide (show Blk Wa w.heap.size #[.pointer (some ⟨b,0,none⟩)] 65 from by rw[hWa];exact((Blk.new w _ _).alloc _).alloc _);have K1:=hide (show Blk Wa (w.heap.size+1) #[.int .i64 2] 3 from by have h:=Blk.new (w.alloc (.cells #[.pointer (some ⟨b,0,none⟩)] 65)) #[.int .i64 2] 3;rw[World.size_alloc] at h;rw[hWa];exact h.alloc _);have K2:=hide (show Blk Wa (w.heap.size+1+1) #[.func (.func 65) #[.pointer (some ⟨b,0,none⟩)] #[]] 114 from by have h:=Blk.new ((w.alloc (.cells #[.pointer (some ⟨b,0,none⟩)] 65)).alloc (.cells #[.int .i64 2] 3)) #[.func (.func 65) #[.pointer (some ⟨b,0,none⟩)] #[]] 114;rw[World.size_alloc,World.size_alloc] at h;rw[hWa];exact h);have HBl:=hide (show b<w.heap.size from by obtain⟨C,hC⟩:=k.bk _ _ hi;exact hC.lt);have HAp:=hide (show ∀W',Below w.heap.size w W'→Apt W' b (w.heap.size+1) from fun W' hb l hl v hv e=>by
  have:=k.own _ _ hi l hl v (w.heap.size+1) ((hb.cell (p:=⟨b,20+l,none⟩) HBl.out).symm.trans hv) e;omega)
 obtain⟨RZ,hRZ⟩:∃RZ,RZ=(#[.int .i64 0,.int .i64 0,.int .i64 0,.int .i64 0,.int .i64 0,.int .i64 0,.int .i64 0,.int .i64 0,.int .i64 0,.int .i64 0,.int .i64 0,.int .i64 0,.int .i64 0,.int .i64 0,.int .i64 0]:Array Value):=⟨_,rfl⟩;obtain⟨WL,hWL⟩:∃WL,WL=(Wa.alloc (.cells RZ 27)).alloc (.cells #[.pointer (some ⟨Wa.heap.size,0,none⟩)] 121):=⟨_,rfl⟩;have hsL:WL.heap.size=w.heap.size+5:=by rw[hWL];simp[sa]
 have BL:=hide (show Below Wa.heap.size Wa WL from by rw[hWL];exact((Below.refl _ _).alloc (Nat.le_refl _) _).alloc (by simp) _);have HBx:=hide (show Blk WL (Wa.heap.size+1) #[.pointer (some ⟨Wa.heap.size,0,none⟩)] 121 from by have h:=Blk.new (Wa.alloc (.cells RZ 27)) #[.pointer (some ⟨Wa.heap.size,0,none⟩)] 121;rw[World.size_alloc] at h;rw[hWL];exact h);have I0:=hide (show ∀W',Below WL.heap.size WL W'→WL.heap.size+2≤W'.heap.size→LvI b 2 (.func (.func 65) #[.pointer (some ⟨b,0,none⟩)] #[]) w cnt I pre0 [] W' from fun W' hb hs'=>by
  have hb0:Below Wa.heap.size Wa W':=BL.out.trans (hb.mono (by omega));have hb1:Below w.heap.size w W':=BA.out.trans (hb0.mono (by omega));exact⟨by simpa [levelV] using h.bel _ _ _ hi hb1,K0.out.below hb0 K0.out.lt,K1.out.below hb0 K1.out.lt,K2.out.below hb0 K2.out.lt,HAp.out W' hb1,by omega⟩)
 have HWa:=hide hWa;have HWL:=hide hWL;have HRZ:=hide hRZ;have hsa1:Wa.heap.size≤w.heap.size+3:=by omega
 have hsa2:w.heap.size+3≤Wa.heap.size:=by omega
 have hsL1:WL.heap.size≤w.heap.size+5:=by omega
 have hsL2:w.heap.size+5≤WL.heap.size:=by omega
 clear h k hi hWa hWL hRZ sa hsL;refine(callsIn_wide (n:=6)).1 ?_;refine callsIn_of_wp_marks Tryz.func63 rfl trivial ?_ rfl;simp only[Tryz.ntmps63,List.size_toArray,List.length_cons,List.length_nil,Nat.reduceAdd,Nat.reduceSub,Array.replicate_succ,Array.replicate_zero,List.push_toArray,List.append_toArray,List.nil_append,List.cons_append];gi_upto_region 1 with fail
 rw[←HWa.out];refine wpIn_wide.2 ?_;go_wp2_with (first
  |(go_at_call 68;refine(callsIn_wide.1 (tops0_in 0 _ _)).mono ?_;rintro e w' ⟨rfl,rfl⟩))
 gi_wp2
 rw[←HRZ.out, ←HWL.out];have hmx:Tryz.prog.follows .mixedOrders=true:=by kernel_rfl
 refine wpIn_rangeGoesK (α:=Nat) rfl (by decide) (gf:=99) (lb:=#[.pointer (some ⟨Wa.heap.size+1,0,none⟩)]) rfl trivial (enters_of Tryz.func99 (by kernel_rfl) rfl) (encs:=topE0 Wa.heap.size) (Kp:=(Kq n₀ (WL.heap.size+2) TyR)) Kq.trans (fun A o o' ho hc=>Kq.put o' (by omega) (by omega) ho hc)
  (Ok:=fun pre x _=>x=pre.length∧x<14) (S:=fun xs=>xs=List.range 14) (Sp:=fun _=>True)
  (fun W1 hb1 hs1=>by
   have:=tops0_goes 5 (Wa.heap.size+1) Wa.heap.size n₀ (WL.heap.size+2) TyR (by unfold TyR;decide) W1 (HBx.out.below hb1 HBx.out.lt);exact this)
  (fun _=>rfl) (LvI b 2 (.func (.func 65) #[.pointer (some ⟨b,0,none⟩)] #[]) w cnt I pre0) (fun c pre W=>False) (LvI.abides HK.out (by omega)) (by rintro c pre A B row h hg hr;exact h)
  (fun W' hb hs'=>I0.out W' hb (by omega))
  (fun pre x a' Wx=>∃c,a'={tmps:=#[.pointer (some ⟨b,0,none⟩),.int .i64 2,.func (.func 65) #[.pointer (some ⟨b,0,none⟩)] #[],.pointer (some ⟨w.heap.size,0,none⟩),.pointer (some ⟨w.heap.size+1,0,none⟩),.pointer (some ⟨w.heap.size+1+1,0,none⟩),.pointer (some ⟨c,0,none⟩),.agg RZ,.pointer (some ⟨Wa.heap.size,0,none⟩),.func (.func 99) #[] #[.pointer (some ⟨Wa.heap.size+1,0,none⟩)],spotV (topL x) (topR x),.pointer (some ⟨Wa.heap.size,1+x,none⟩),undef,undef,undef,undef,undef],defers:=[]}∧Blk Wx c #[.int .i64 (topL x:Int),.int .i64 (topR x:Int)] 123∧LvI b 2 (.func (.func 65) #[.pointer (some ⟨b,0,none⟩)] #[]) w cnt I pre0 pre Wx∧x=pre.length∧x<14) ?ax ?assign ?body ?done ?stop
 case ax=>
  rintro pre x a' A B ⟨c,h1,h2,h3,h4⟩ hg hr;exact⟨c,h1,blk_bare h2 hg hr,LvI.abides HK.out (z:=WL.heap.size+1) (by omega) pre A B _ h3 hg (fun r e=>by cases e;exact⟨Nat.le_refl _,hr⟩),h4⟩
 case assign=>
  rintro l pre x Wx K hI hok hK;have HKx:=hide (And.intro hI (And.intro hok hK));clear hI hok hK;unfold topE0;gi_wp2
  have bA:Below Wx.heap.size Wx (Wx.alloc (.cells #[.int .i64 (topL x:Int),.int .i64 (topR x:Int)] 123)):=(Below.refl _ _).alloc (Nat.le_refl _) _;have gA:Wx.grownBy (Wx.alloc (.cells #[.int .i64 (topL x:Int),.int .i64 (topR x:Int)] 123)) none:=⟨bA.os,bA.tape,bA.output,bA.size,fun k hk _=>bA.block k hk⟩;exact HKx.out.2.2 _ _ (keeps_belowT bA) (Kq.of_below bA (by have:=HKx.out.1.size;omega)) ⟨_,rfl,Blk.new _ _ _,LvI.abides HK.out (z:=n₀) (Nat.le_refl _) pre _ _ none HKx.out.1 gA (fun r e=>by cases e),HKx.out.2.1⟩
 case body=>
  rintro l pre x a' Wx ⟨c,rfl,kc,hI,hx,hx14⟩;have HX:=hide (And.intro hI (And.intro kc hx));have HRg:=hide (blk_two kc);have c0:=(hI.bw.cell 0).trans (show _=some (.pointer (some ⟨b,0,none⟩)) from rfl);have c1:=(hI.bl.cell 0).trans (show _=some (.int .i64 2) from rfl);have c2:=(hI.bf.cell 0).trans (show _=some (.func (.func 65) #[.pointer (some ⟨b,0,none⟩)] #[]) from rfl);clear hI kc hx;gi_wp2_with (first
   |(refine wpListIn_load_mid rfl 123 _ rfl c 0 rfl [.int .i64 (topL x:Int),.int .i64 (topR x:Int)] _ HRg.out Tryz.underlying123 rfl infoSp ?_)
   |(refine⟨trivial,?_⟩;gi_at_call 86;refine(CallsIn.inRound l (callsIn_wide.2 (walkAll_2 cnt n b ca cc _ I H.out (topL x) (topR x) (top_lt x) _ _ (topF_le hx14) HX.out.1.inv (by rw[←HX.out.2.2];exact flat_pre (f:=fun j=>visit cnt 2 (topL j) (topR j)) hx14 (List.prefix_refl _))))).mono ?_;rintro e w9 ⟨rfl,i9,y9⟩;have H9:=hide (And.intro i9 y9);clear i9 y9))
  have kF:∀z,Kq n₀ z TyR Wx w9:=fun z=>H9.out.2.kq (HK.out.low _ _ HX.out.1.inv) (HK.out.low _ _ H9.out.1);have hf:=H9.out.2.2.1 (by obtain⟨C,hC⟩:=HK.out.bk _ _ HX.out.1.inv;exact hC.lt);have hx2:=hf.2 _ _ HX.out.1.bl HX.out.1.apt;have HN:=hide (show LvI b 2 (.func (.func 65) #[.pointer (some ⟨b,0,none⟩)] #[]) w cnt I pre0 (pre++[x]) w9 from⟨by rw[List.length_append,List.length_singleton,levelV_succ, ←List.append_assoc, ←HX.out.2.2];have:=H9.out.1;rw[←HX.out.2.2] at this;exact this,H9.out.2.blk HX.out.1.bw (by unfold TyR;decide),hx2.1,H9.out.2.blk HX.out.1.bf (by unfold TyR;decide),hx2.2,Nat.le_trans HX.out.1.size (kF 0).size⟩);exact⟨(kF _).keepsZ,kF _,HN.out⟩
 case done=>
  rintro xs Wx hS hI hK;subst hS;have HD:=hide (And.intro hI.inv hK);clear hI hK;gi_wp2
  have hD:=HD.out.2;refine⟨by simp,.inl ⟨_,_,rfl,run_takeDeferred hD,?_⟩⟩;refine⟨_,results_none rfl _ _ _,rfl,?_⟩;have:=HK.out.ab n₀ (Nat.le_refl _) _ Wx (Wx.putObj WL.heap.size (.deferred none)) (some WL.heap.size) HD.out.1 (grownBy_putObj' _ _ _) (fun r e=>by cases e;exact⟨by omega,_,hD,rfl⟩);simpa using this
 case stop=>
  rintro c pre W _ hf;exact hf.elim
end
end Go.Proofs.YtbhpealglhkodaaGreatDoor
