/- The program's renewal: walkLevel -/
import Derived.Test.YtpplnhkpcpieoaaGreatDoorZx34
import Derived.Test.YtpplnhkpcpieoaaGreatDoorZx35
namespace Go.Proofs.YtpplnhkpcpieoaaGreatDoor
open Go.Proofs.Tryz
open _root_.List (range range_succ flatMap_append size_toArray length_cons length_nil push_toArray nil_append cons_append prefix_refl length_append append_assoc replicate range' flatMap_cons flatMap_nil append_nil range'_append_1 foldl_append)
open World (size_alloc)
set_option linter.all false
set_option maxRecDepth 100000
set_option maxHeartbeats 16000000
section
open Go.RowKit Go.Shelf
attribute [local go_sem] Oper.semAt_some
def dQ(cnt lvl j:Nat):List Nat:=(range j).flatMap (fun j=>visit cnt lvl (bT j) (cq j))
theorem vm(cnt lvl j:Nat):dQ cnt lvl (j+1)=dQ cnt lvl j++visit cnt lvl (bT j) (cq j):=by unfold dQ;rw[range_succ,flatMap_append];simp
structure p4(n₀ b:Nat)(w0:World)(I:List Nat→World→Prop):Prop where
 ab:∀z,n₀≤z→iL z I
 bk:∀pre w,I pre w→∃C,af w b C 112
 own:∀pre w,I pre w→∀l,l<3→∀v g,w.cell? ⟨b,20+l,none⟩=some v→v.ownBlock=some g→g<w.heap.size
 low:∀pre w,I pre w→Below n₀ w0 w
 n₀:n₀≤w0.heap.size
structure fj(b lvl:Nat)(lf:Value)(w:World)(cnt:Nat)(I:List Nat→World→Prop)(bK:List Nat)(pre:List Nat)(W:World):Prop where
 inv:I (bK++dQ cnt lvl pre.length) W
 bw:af W w.heap.size #[.pointer (some ⟨b,0,none⟩)] 101
 bl:af W (w.heap.size+1) #[.int .i64 (lvl:Int)] 3
 bf:af W (w.heap.size+1+1) #[lf] 168
 apt:mL W b (w.heap.size+1)
 size:w.heap.size+7≤W.heap.size
theorem Js{A B:World}{row:Option Nat}{b X z:Nat}{C:Array Value}{t:TypeId}(h:mL A b X)(k:af A b C t)(hg:A.grownBy B row)(hr:∀r,row=some r→z≤r∧∃o,A.heap[r]?=some o∧o.isCells=false):mL B b X:=fun l hl v hv=>by
 rw[(dZ k hg hr).cell (20+l)] at hv;exact h l hl v ((k.cell (20+l)).trans hv)
theorem fj.dU{n₀ b lvl cnt z:Nat}{lf:Value}{w0 w:World}{I:List Nat→World→Prop}{bK:List Nat}(k:p4 n₀ b w0 I)(hz:n₀≤z):iL z (fj b lvl lf w cnt I bK):=by
 intro pre A B row h hg hr;obtain⟨C,hC⟩:=k.bk _ _ h.inv;exact⟨k.ab z hz _ A B row h.inv hg hr,dZ h.bw hg hr,dZ h.bl hg hr,dZ h.bf hg hr,Js h.apt hC hg hr,aK h.size hg.size⟩
theorem vn(j:Nat):bT j<3:=by have:=qQ j;omega
theorem Jt(cnt n b:Nat)(ca:Option Addr)(cc:Nat)(F:List Nat)(I:List Nat→World→Prop)(h:iH 90 0 cnt n b ca cc F I)(l r:Nat)(hl:l<3)(pre:List Nat)(w:World)(hf:aT l r≤100000)(hi:I pre w)(hp:pre++visit cnt 0 l r<+:F):
 Calls prog 125 #[.pointer (some ⟨b,0,none⟩),bh l r,.int .i64 0,.func (.func 90) #[.pointer (some ⟨b,0,none⟩)] #[]] w fun e w'=>e=.returned (.tuple #[])∧I (pre++visit cnt 0 l r) w'∧aS b w w':=
 match l,hl,hf,hp with
 |0,_,hf,hp=>Ap cnt n b ca cc F I h r pre w hf hi hp
 |1,_,hf,hp=>Aq cnt n b ca cc F I h r pre w hf hi hp
 |2,_,hf,hp=>Jm cnt n b ca cc F I h r pre w hf hi hp
theorem Ju(n₀ cnt n b:Nat)(ca:Option Addr)(cc:Nat)(I:List Nat→World→Prop)(w0:World)(bK:List Nat)(h:iH 90 0 cnt n b ca cc (bK++dQ cnt 0 14) I)(k:p4 n₀ b w0 I)(w:World)(hi:I bK w):
 Calls prog 89 #[.pointer (some ⟨b,0,none⟩),.int .i64 0,.func (.func 90) #[.pointer (some ⟨b,0,none⟩)] #[]] w fun e w'=>e=.returned (.tuple #[])∧I (bK++dQ cnt 0 14) w':=by
 have H:=aa h;have HK:=aa k;have HI:=aa hi;have hn0:n₀≤w.heap.size:=aK k.n₀ (k.low _ _ hi).size;obtain⟨Wa,hWa⟩:∃Wa,Wa=(((w.alloc (.cells #[.pointer (some ⟨b,0,none⟩)] 101)).alloc (.cells #[.int .i64 0] 3)).alloc (.cells #[.func (.func 90) #[.pointer (some ⟨b,0,none⟩)] #[]] 168)):=⟨_,rfl⟩;have sa:Wa.heap.size=w.heap.size+3:=by rw[hWa];simp
 have BA:=ae (Below w.heap.size w Wa) (by rw[hWa];exact(((ak.alloc aj _).alloc (by simp) _).alloc (by simp;omega) _));have K0:=ae (af Wa w.heap.size #[.pointer (some ⟨b,0,none⟩)] 101) (by rw[hWa];exact((af.new w _ _).alloc _).alloc _);have K1:=ae (af Wa (w.heap.size+1) #[.int .i64 0] 3) (by have h:=af.new (w.alloc (.cells #[.pointer (some ⟨b,0,none⟩)] 101)) #[.int .i64 0] 3;rw[size_alloc] at h;rw[hWa];exact h.alloc _);have K2:=ae (af Wa (w.heap.size+1+1) #[.func (.func 90) #[.pointer (some ⟨b,0,none⟩)] #[]] 168) (by have h:=af.new ((w.alloc (.cells #[.pointer (some ⟨b,0,none⟩)] 101)).alloc (.cells #[.int .i64 0] 3)) #[.func (.func 90) #[.pointer (some ⟨b,0,none⟩)] #[]] 168;rw[size_alloc,size_alloc] at h;rw[hWa];exact h);have Qd:=ae (b<w.heap.size) (by obtain⟨C,hC⟩:=k.bk _ _ hi;exact hC.lt);have NV:=ae (∀W',Below w.heap.size w W'→mL W' b (w.heap.size+1)) (fun W' hb l hl v hv e=>by
  have:=k.own _ _ hi l hl v (w.heap.size+1) ((hb.cell (p:=⟨b,20+l,none⟩) Qd.out).symm.trans hv) e;omega)
 obtain⟨RZ,Qm⟩:∃RZ,RZ=(#[.int .i64 0,.int .i64 0,.int .i64 0,.int .i64 0,.int .i64 0,.int .i64 0,.int .i64 0,.int .i64 0,.int .i64 0,.int .i64 0,.int .i64 0,.int .i64 0,.int .i64 0,.int .i64 0,.int .i64 0]:Array Value):=⟨_,rfl⟩;obtain⟨WL,cK⟩:∃WL,WL=(Wa.alloc (.cells RZ 31)).alloc (.cells #[.pointer (some ⟨Wa.heap.size,0,none⟩)] 173):=⟨_,rfl⟩;have hsL:WL.heap.size=w.heap.size+5:=by rw[cK];simp[sa]
 have BL:=ae (Below Wa.heap.size Wa WL) (by rw[cK];exact(ak.alloc aj _).alloc (by simp) _);have NL:=ae (af WL (Wa.heap.size+1) #[.pointer (some ⟨Wa.heap.size,0,none⟩)] 173) (by have h:=af.new (Wa.alloc (.cells RZ 31)) #[.pointer (some ⟨Wa.heap.size,0,none⟩)] 173;rw[size_alloc] at h;rw[cK];exact h);have I0:=ae (∀W',Below WL.heap.size WL W'→WL.heap.size+2≤W'.heap.size→fj b 0 (.func (.func 90) #[.pointer (some ⟨b,0,none⟩)] #[]) w cnt I bK [] W') (fun W' hb hs'=>by
  have hb0:Below Wa.heap.size Wa W':=BL.out.trans (hb.mono (by omega));have hb1:Below w.heap.size w W':=BA.out.trans (hb0.mono (by omega));exact⟨by simpa [dQ] using h.fF _ _ _ hi hb1,K0.out.below hb0 K0.out.lt,K1.out.below hb0 K1.out.lt,K2.out.below hb0 K2.out.lt,NV.out W' hb1,by omega⟩)
 have Tq:=aa hWa;have Ox:=aa cK;have TO:=aa Qm;have Tr:Wa.heap.size≤w.heap.size+3:=by omega
 have Ts:w.heap.size+3≤Wa.heap.size:=by omega
 have Tt:WL.heap.size≤w.heap.size+5:=by omega
 have Tu:w.heap.size+5≤WL.heap.size:=by omega
 clear h k hi hWa cK Qm sa hsL;refine(callsIn_wide (n:=6)).1 ?_;refine callsIn_of_wp_marks func89 rfl trivial ?_ rfl;simp only[ntmps89,size_toArray,length_cons,length_nil,Nat.reduceAdd,Nat.reduceSub,Array.replicate_succ,Array.replicate_zero,push_toArray,List.append_toArray,nil_append,cons_append];gi_upto_region 1 with fail
 rw[←Tq.out];refine wpIn_wide.2 ?_;go_wp2_with (first
  |(go_at_call 93;refine(callsIn_wide.1 (rI 0 _ _)).mono ?_;rintro e w' ⟨rfl,rfl⟩))
 gi_wp2
 rw[←TO.out, ←Ox.out];have hmx:prog.follows .mixedOrders=true:=by kernel_rfl
 refine mj (α:=Nat) rfl (by decide) (gf:=132) (lb:=#[.pointer (some ⟨Wa.heap.size+1,0,none⟩)]) rfl trivial (enters_of func132 (by kernel_rfl) rfl) (encs:=jG Wa.heap.size) (Kp:=(Kq n₀ (WL.heap.size+2) dL)) Kq.trans (fun A o o' ho hc=>Kq.put o' (by omega) (by omega) ho hc)
  (Ok:=fun pre x _=>x=pre.length∧x<14) (S:=fun xs=>xs=range 14) (Sp:=fun _=>True)
  (fun W1 hb1 hs1=>by
   have:=rJ 5 (Wa.heap.size+1) Wa.heap.size n₀ (WL.heap.size+2) dL (by unfold dL;decide) W1 (NL.out.below hb1 NL.out.lt);exact this)
  (fun _=>rfl) (fj b 0 (.func (.func 90) #[.pointer (some ⟨b,0,none⟩)] #[]) w cnt I bK) (fun c pre W=>False) (fj.dU HK.out (by omega)) (by rintro c pre A B row h hg hr;exact h)
  (fun W' hb hs'=>I0.out W' hb (by omega))
  (fun pre x a' Wx=>∃c,a'={tmps:=#[.pointer (some ⟨b,0,none⟩),.int .i64 0,.func (.func 90) #[.pointer (some ⟨b,0,none⟩)] #[],.pointer (some ⟨w.heap.size,0,none⟩),.pointer (some ⟨w.heap.size+1,0,none⟩),.pointer (some ⟨w.heap.size+1+1,0,none⟩),.pointer (some ⟨c,0,none⟩),.agg RZ,.pointer (some ⟨Wa.heap.size,0,none⟩),.func (.func 132) #[] #[.pointer (some ⟨Wa.heap.size+1,0,none⟩)],bh (bT x) (cq x),.pointer (some ⟨Wa.heap.size,1+x,none⟩),undef,undef,undef,undef,undef],defers:=[]}∧af Wx c #[.int .i64 (bT x:Int),.int .i64 (cq x:Int)] 175∧fj b 0 (.func (.func 90) #[.pointer (some ⟨b,0,none⟩)] #[]) w cnt I bK pre Wx∧x=pre.length∧x<14) ?ax ?assign ?body ?done ?stop
 case ax=>
  rintro pre x a' A B ⟨c,h1,h2,h3,h4⟩ hg hr;exact⟨c,h1,kR h2 hg hr,fj.dU HK.out (z:=WL.heap.size+1) (by omega) pre A B _ h3 hg (fun r e=>by cases e;exact⟨aj,hr⟩),h4⟩
 case assign=>
  rintro l pre x Wx K hI hok hK;have Oj:=aa (ai hI (ai hok hK));clear hI hok hK;unfold jG;gi_wp2
  have bA:Below Wx.heap.size Wx (Wx.alloc (.cells #[.int .i64 (bT x:Int),.int .i64 (cq x:Int)] 175)):=ak.alloc aj _;have gA:Wx.grownBy (Wx.alloc (.cells #[.int .i64 (bT x:Int),.int .i64 (cq x:Int)] 175)) none:=⟨bA.os,bA.tape,bA.output,bA.size,fun k hk _=>bA.block k hk⟩;exact Oj.out.2.2 _ _ (lK bA) (Kq.cV bA (by have:=Oj.out.1.size;omega)) ⟨_,rfl,af.new _ _ _,fj.dU HK.out (z:=n₀) aj pre _ _ none Oj.out.1 gA (fun r e=>by cases e),Oj.out.2.1⟩
 case body=>
  rintro l pre x a' Wx ⟨c,rfl,kc,hI,hx,NR⟩;have HX:=aa (ai hI (ai kc hx));have eU:=aa (dX kc);have c0:=(hI.bw.cell 0).trans (show _=some (.pointer (some ⟨b,0,none⟩)) from rfl);have c1:=(hI.bl.cell 0).trans (show _=some (.int .i64 0) from rfl);have c2:=(hI.bf.cell 0).trans (show _=some (.func (.func 90) #[.pointer (some ⟨b,0,none⟩)] #[]) from rfl);clear hI kc hx;gi_wp2_with (first
   |(refine lJ rfl 175 _ rfl c 0 rfl [.int .i64 (bT x:Int),.int .i64 (cq x:Int)] _ eU.out underlying175 rfl bZ ?_)
   |(refine⟨trivial,?_⟩;gi_at_call 125;refine(CallsIn.inRound l (callsIn_wide.2 (Jt cnt n b ca cc _ I H.out (bT x) (cq x) (vn x) _ _ (pM NR) HX.out.1.inv (by rw[←HX.out.2.2];exact oC (f:=fun j=>visit cnt 0 (bT j) (cq j)) NR (prefix_refl _))))).mono ?_;rintro e w9 ⟨rfl,i9,y9⟩;have H9:=aa (ai i9 y9);clear i9 y9))
  have kF:∀z,Kq n₀ z dL Wx w9:=fun z=>H9.out.2.kq (HK.out.low _ _ HX.out.1.inv) (HK.out.low _ _ H9.out.1);have hf:=H9.out.2.2.1 (by obtain⟨C,hC⟩:=HK.out.bk _ _ HX.out.1.inv;exact hC.lt);have hx2:=hf.2 _ _ HX.out.1.bl HX.out.1.apt;have HN:=ae (fj b 0 (.func (.func 90) #[.pointer (some ⟨b,0,none⟩)] #[]) w cnt I bK (pre++[x]) w9) (⟨by rw[length_append,List.length_singleton,vm, ←append_assoc, ←HX.out.2.2];have:=H9.out.1;rw[←HX.out.2.2] at this;exact this,H9.out.2.blk HX.out.1.bw (by unfold dL;decide),hx2.1,H9.out.2.blk HX.out.1.bf (by unfold dL;decide),hx2.2,aK HX.out.1.size (kF 0).size⟩);exact⟨(kF _).iM,kF _,HN.out⟩
 case done=>
  rintro xs Wx hS hI hK;subst hS;have HD:=aa (ai hI.inv hK);clear hI hK;gi_wp2
  have hD:=HD.out.2;refine⟨by simp,.inl ⟨_,_,rfl,run_takeDeferred hD,?_⟩⟩;refine⟨_,results_none rfl _ _ _,rfl,?_⟩;have:=HK.out.ab n₀ aj _ Wx (Wx.putObj WL.heap.size (.deferred none)) (some WL.heap.size) HD.out.1 (grownBy_putObj' _ _ _) (fun r e=>by cases e;exact⟨by omega,_,hD,rfl⟩);simpa using this
 case stop=>
  rintro c pre W _ hf;exact hf.elim
theorem Jv(cnt n b:Nat)(ca:Option Addr)(cc:Nat)(F:List Nat)(I:List Nat→World→Prop)(h:iH 91 1 cnt n b ca cc F I)(l r:Nat)(hl:l<3)(pre:List Nat)(w:World)(hf:aT l r≤100000)(hi:I pre w)(hp:pre++visit cnt 1 l r<+:F):
 Calls prog 125 #[.pointer (some ⟨b,0,none⟩),bh l r,.int .i64 1,.func (.func 91) #[.pointer (some ⟨b,0,none⟩)] #[]] w fun e w'=>e=.returned (.tuple #[])∧I (pre++visit cnt 1 l r) w'∧aS b w w':=
 match l,hl,hf,hp with
 |0,_,hf,hp=>Jn cnt n b ca cc F I h r pre w hf hi hp
 |1,_,hf,hp=>Ar cnt n b ca cc F I h r pre w hf hi hp
 |2,_,hf,hp=>Jo cnt n b ca cc F I h r pre w hf hi hp
theorem Jw(n₀ cnt n b:Nat)(ca:Option Addr)(cc:Nat)(I:List Nat→World→Prop)(w0:World)(bK:List Nat)(h:iH 91 1 cnt n b ca cc (bK++dQ cnt 1 14) I)(k:p4 n₀ b w0 I)(w:World)(hi:I bK w):
 Calls prog 89 #[.pointer (some ⟨b,0,none⟩),.int .i64 1,.func (.func 91) #[.pointer (some ⟨b,0,none⟩)] #[]] w fun e w'=>e=.returned (.tuple #[])∧I (bK++dQ cnt 1 14) w':=by
 have H:=aa h;have HK:=aa k;have HI:=aa hi;have hn0:n₀≤w.heap.size:=aK k.n₀ (k.low _ _ hi).size;obtain⟨Wa,hWa⟩:∃Wa,Wa=(((w.alloc (.cells #[.pointer (some ⟨b,0,none⟩)] 101)).alloc (.cells #[.int .i64 1] 3)).alloc (.cells #[.func (.func 91) #[.pointer (some ⟨b,0,none⟩)] #[]] 168)):=⟨_,rfl⟩;have sa:Wa.heap.size=w.heap.size+3:=by rw[hWa];simp
 have BA:=ae (Below w.heap.size w Wa) (by rw[hWa];exact(((ak.alloc aj _).alloc (by simp) _).alloc (by simp;omega) _));have K0:=ae (af Wa w.heap.size #[.pointer (some ⟨b,0,none⟩)] 101) (by rw[hWa];exact((af.new w _ _).alloc _).alloc _);have K1:=ae (af Wa (w.heap.size+1) #[.int .i64 1] 3) (by have h:=af.new (w.alloc (.cells #[.pointer (some ⟨b,0,none⟩)] 101)) #[.int .i64 1] 3;rw[size_alloc] at h;rw[hWa];exact h.alloc _);have K2:=ae (af Wa (w.heap.size+1+1) #[.func (.func 91) #[.pointer (some ⟨b,0,none⟩)] #[]] 168) (by have h:=af.new ((w.alloc (.cells #[.pointer (some ⟨b,0,none⟩)] 101)).alloc (.cells #[.int .i64 1] 3)) #[.func (.func 91) #[.pointer (some ⟨b,0,none⟩)] #[]] 168;rw[size_alloc,size_alloc] at h;rw[hWa];exact h);have Qd:=ae (b<w.heap.size) (by obtain⟨C,hC⟩:=k.bk _ _ hi;exact hC.lt);have NV:=ae (∀W',Below w.heap.size w W'→mL W' b (w.heap.size+1)) (fun W' hb l hl v hv e=>by
  have:=k.own _ _ hi l hl v (w.heap.size+1) ((hb.cell (p:=⟨b,20+l,none⟩) Qd.out).symm.trans hv) e;omega)
 obtain⟨RZ,Qm⟩:∃RZ,RZ=(#[.int .i64 0,.int .i64 0,.int .i64 0,.int .i64 0,.int .i64 0,.int .i64 0,.int .i64 0,.int .i64 0,.int .i64 0,.int .i64 0,.int .i64 0,.int .i64 0,.int .i64 0,.int .i64 0,.int .i64 0]:Array Value):=⟨_,rfl⟩;obtain⟨WL,cK⟩:∃WL,WL=(Wa.alloc (.cells RZ 31)).alloc (.cells #[.pointer (some ⟨Wa.heap.size,0,none⟩)] 173):=⟨_,rfl⟩;have hsL:WL.heap.size=w.heap.size+5:=by rw[cK];simp[sa]
 have BL:=ae (Below Wa.heap.size Wa WL) (by rw[cK];exact(ak.alloc aj _).alloc (by simp) _);have NL:=ae (af WL (Wa.heap.size+1) #[.pointer (some ⟨Wa.heap.size,0,none⟩)] 173) (by have h:=af.new (Wa.alloc (.cells RZ 31)) #[.pointer (some ⟨Wa.heap.size,0,none⟩)] 173;rw[size_alloc] at h;rw[cK];exact h);have I0:=ae (∀W',Below WL.heap.size WL W'→WL.heap.size+2≤W'.heap.size→fj b 1 (.func (.func 91) #[.pointer (some ⟨b,0,none⟩)] #[]) w cnt I bK [] W') (fun W' hb hs'=>by
  have hb0:Below Wa.heap.size Wa W':=BL.out.trans (hb.mono (by omega));have hb1:Below w.heap.size w W':=BA.out.trans (hb0.mono (by omega));exact⟨by simpa [dQ] using h.fF _ _ _ hi hb1,K0.out.below hb0 K0.out.lt,K1.out.below hb0 K1.out.lt,K2.out.below hb0 K2.out.lt,NV.out W' hb1,by omega⟩)
 have Tq:=aa hWa;have Ox:=aa cK;have TO:=aa Qm;have Tr:Wa.heap.size≤w.heap.size+3:=by omega
 have Ts:w.heap.size+3≤Wa.heap.size:=by omega
 have Tt:WL.heap.size≤w.heap.size+5:=by omega
 have Tu:w.heap.size+5≤WL.heap.size:=by omega
 clear h k hi hWa cK Qm sa hsL;refine(callsIn_wide (n:=6)).1 ?_;refine callsIn_of_wp_marks func89 rfl trivial ?_ rfl;simp only[ntmps89,size_toArray,length_cons,length_nil,Nat.reduceAdd,Nat.reduceSub,Array.replicate_succ,Array.replicate_zero,push_toArray,List.append_toArray,nil_append,cons_append];gi_upto_region 1 with fail
 rw[←Tq.out];refine wpIn_wide.2 ?_;go_wp2_with (first
  |(go_at_call 93;refine(callsIn_wide.1 (rI 0 _ _)).mono ?_;rintro e w' ⟨rfl,rfl⟩))
 gi_wp2
 rw[←TO.out, ←Ox.out];have hmx:prog.follows .mixedOrders=true:=by kernel_rfl
 refine mj (α:=Nat) rfl (by decide) (gf:=132) (lb:=#[.pointer (some ⟨Wa.heap.size+1,0,none⟩)]) rfl trivial (enters_of func132 (by kernel_rfl) rfl) (encs:=jG Wa.heap.size) (Kp:=(Kq n₀ (WL.heap.size+2) dL)) Kq.trans (fun A o o' ho hc=>Kq.put o' (by omega) (by omega) ho hc)
  (Ok:=fun pre x _=>x=pre.length∧x<14) (S:=fun xs=>xs=range 14) (Sp:=fun _=>True)
  (fun W1 hb1 hs1=>by
   have:=rJ 5 (Wa.heap.size+1) Wa.heap.size n₀ (WL.heap.size+2) dL (by unfold dL;decide) W1 (NL.out.below hb1 NL.out.lt);exact this)
  (fun _=>rfl) (fj b 1 (.func (.func 91) #[.pointer (some ⟨b,0,none⟩)] #[]) w cnt I bK) (fun c pre W=>False) (fj.dU HK.out (by omega)) (by rintro c pre A B row h hg hr;exact h)
  (fun W' hb hs'=>I0.out W' hb (by omega))
  (fun pre x a' Wx=>∃c,a'={tmps:=#[.pointer (some ⟨b,0,none⟩),.int .i64 1,.func (.func 91) #[.pointer (some ⟨b,0,none⟩)] #[],.pointer (some ⟨w.heap.size,0,none⟩),.pointer (some ⟨w.heap.size+1,0,none⟩),.pointer (some ⟨w.heap.size+1+1,0,none⟩),.pointer (some ⟨c,0,none⟩),.agg RZ,.pointer (some ⟨Wa.heap.size,0,none⟩),.func (.func 132) #[] #[.pointer (some ⟨Wa.heap.size+1,0,none⟩)],bh (bT x) (cq x),.pointer (some ⟨Wa.heap.size,1+x,none⟩),undef,undef,undef,undef,undef],defers:=[]}∧af Wx c #[.int .i64 (bT x:Int),.int .i64 (cq x:Int)] 175∧fj b 1 (.func (.func 91) #[.pointer (some ⟨b,0,none⟩)] #[]) w cnt I bK pre Wx∧x=pre.length∧x<14) ?ax ?assign ?body ?done ?stop
 case ax=>
  rintro pre x a' A B ⟨c,h1,h2,h3,h4⟩ hg hr;exact⟨c,h1,kR h2 hg hr,fj.dU HK.out (z:=WL.heap.size+1) (by omega) pre A B _ h3 hg (fun r e=>by cases e;exact⟨aj,hr⟩),h4⟩
 case assign=>
  rintro l pre x Wx K hI hok hK;have Oj:=aa (ai hI (ai hok hK));clear hI hok hK;unfold jG;gi_wp2
  have bA:Below Wx.heap.size Wx (Wx.alloc (.cells #[.int .i64 (bT x:Int),.int .i64 (cq x:Int)] 175)):=ak.alloc aj _;have gA:Wx.grownBy (Wx.alloc (.cells #[.int .i64 (bT x:Int),.int .i64 (cq x:Int)] 175)) none:=⟨bA.os,bA.tape,bA.output,bA.size,fun k hk _=>bA.block k hk⟩;exact Oj.out.2.2 _ _ (lK bA) (Kq.cV bA (by have:=Oj.out.1.size;omega)) ⟨_,rfl,af.new _ _ _,fj.dU HK.out (z:=n₀) aj pre _ _ none Oj.out.1 gA (fun r e=>by cases e),Oj.out.2.1⟩
 case body=>
  rintro l pre x a' Wx ⟨c,rfl,kc,hI,hx,NR⟩;have HX:=aa (ai hI (ai kc hx));have eU:=aa (dX kc);have c0:=(hI.bw.cell 0).trans (show _=some (.pointer (some ⟨b,0,none⟩)) from rfl);have c1:=(hI.bl.cell 0).trans (show _=some (.int .i64 1) from rfl);have c2:=(hI.bf.cell 0).trans (show _=some (.func (.func 91) #[.pointer (some ⟨b,0,none⟩)] #[]) from rfl);clear hI kc hx;gi_wp2_with (first
   |(refine lJ rfl 175 _ rfl c 0 rfl [.int .i64 (bT x:Int),.int .i64 (cq x:Int)] _ eU.out underlying175 rfl bZ ?_)
   |(refine⟨trivial,?_⟩;gi_at_call 125;refine(CallsIn.inRound l (callsIn_wide.2 (Jv cnt n b ca cc _ I H.out (bT x) (cq x) (vn x) _ _ (pM NR) HX.out.1.inv (by rw[←HX.out.2.2];exact oC (f:=fun j=>visit cnt 1 (bT j) (cq j)) NR (prefix_refl _))))).mono ?_;rintro e w9 ⟨rfl,i9,y9⟩;have H9:=aa (ai i9 y9);clear i9 y9))
  have kF:∀z,Kq n₀ z dL Wx w9:=fun z=>H9.out.2.kq (HK.out.low _ _ HX.out.1.inv) (HK.out.low _ _ H9.out.1);have hf:=H9.out.2.2.1 (by obtain⟨C,hC⟩:=HK.out.bk _ _ HX.out.1.inv;exact hC.lt);have hx2:=hf.2 _ _ HX.out.1.bl HX.out.1.apt;have HN:=ae (fj b 1 (.func (.func 91) #[.pointer (some ⟨b,0,none⟩)] #[]) w cnt I bK (pre++[x]) w9) (⟨by rw[length_append,List.length_singleton,vm, ←append_assoc, ←HX.out.2.2];have:=H9.out.1;rw[←HX.out.2.2] at this;exact this,H9.out.2.blk HX.out.1.bw (by unfold dL;decide),hx2.1,H9.out.2.blk HX.out.1.bf (by unfold dL;decide),hx2.2,aK HX.out.1.size (kF 0).size⟩);exact⟨(kF _).iM,kF _,HN.out⟩
 case done=>
  rintro xs Wx hS hI hK;subst hS;have HD:=aa (ai hI.inv hK);clear hI hK;gi_wp2
  have hD:=HD.out.2;refine⟨by simp,.inl ⟨_,_,rfl,run_takeDeferred hD,?_⟩⟩;refine⟨_,results_none rfl _ _ _,rfl,?_⟩;have:=HK.out.ab n₀ aj _ Wx (Wx.putObj WL.heap.size (.deferred none)) (some WL.heap.size) HD.out.1 (grownBy_putObj' _ _ _) (fun r e=>by cases e;exact⟨by omega,_,hD,rfl⟩);simpa using this
 case stop=>
  rintro c pre W _ hf;exact hf.elim
theorem Jy(cnt n b:Nat)(ca:Option Addr)(cc:Nat)(F:List Nat)(I:List Nat→World→Prop)(h:iH 91 2 cnt n b ca cc F I)(l r:Nat)(hl:l<3)(pre:List Nat)(w:World)(hf:aT l r≤100000)(hi:I pre w)(hp:pre++visit cnt 2 l r<+:F):
 Calls prog 125 #[.pointer (some ⟨b,0,none⟩),bh l r,.int .i64 2,.func (.func 91) #[.pointer (some ⟨b,0,none⟩)] #[]] w fun e w'=>e=.returned (.tuple #[])∧I (pre++visit cnt 2 l r) w'∧aS b w w':=
 match l,hl,hf,hp with
 |0,_,hf,hp=>Jp cnt n b ca cc F I h r pre w hf hi hp
 |1,_,hf,hp=>Jq cnt n b ca cc F I h r pre w hf hi hp
 |2,_,hf,hp=>Jr cnt n b ca cc F I h r pre w hf hi hp
theorem Jz(n₀ cnt n b:Nat)(ca:Option Addr)(cc:Nat)(I:List Nat→World→Prop)(w0:World)(bK:List Nat)(h:iH 91 2 cnt n b ca cc (bK++dQ cnt 2 14) I)(k:p4 n₀ b w0 I)(w:World)(hi:I bK w):
 Calls prog 89 #[.pointer (some ⟨b,0,none⟩),.int .i64 2,.func (.func 91) #[.pointer (some ⟨b,0,none⟩)] #[]] w fun e w'=>e=.returned (.tuple #[])∧I (bK++dQ cnt 2 14) w':=by
 have H:=aa h;have HK:=aa k;have HI:=aa hi;have hn0:n₀≤w.heap.size:=aK k.n₀ (k.low _ _ hi).size;obtain⟨Wa,hWa⟩:∃Wa,Wa=(((w.alloc (.cells #[.pointer (some ⟨b,0,none⟩)] 101)).alloc (.cells #[.int .i64 2] 3)).alloc (.cells #[.func (.func 91) #[.pointer (some ⟨b,0,none⟩)] #[]] 168)):=⟨_,rfl⟩;have sa:Wa.heap.size=w.heap.size+3:=by rw[hWa];simp
 have BA:=ae (Below w.heap.size w Wa) (by rw[hWa];exact(((ak.alloc aj _).alloc (by simp) _).alloc (by simp;omega) _));have K0:=ae (af Wa w.heap.size #[.pointer (some ⟨b,0,none⟩)] 101) (by rw[hWa];exact((af.new w _ _).alloc _).alloc _);have K1:=ae (af Wa (w.heap.size+1) #[.int .i64 2] 3) (by have h:=af.new (w.alloc (.cells #[.pointer (some ⟨b,0,none⟩)] 101)) #[.int .i64 2] 3;rw[size_alloc] at h;rw[hWa];exact h.alloc _);have K2:=ae (af Wa (w.heap.size+1+1) #[.func (.func 91) #[.pointer (some ⟨b,0,none⟩)] #[]] 168) (by have h:=af.new ((w.alloc (.cells #[.pointer (some ⟨b,0,none⟩)] 101)).alloc (.cells #[.int .i64 2] 3)) #[.func (.func 91) #[.pointer (some ⟨b,0,none⟩)] #[]] 168;rw[size_alloc,size_alloc] at h;rw[hWa];exact h);have Qd:=ae (b<w.heap.size) (by obtain⟨C,hC⟩:=k.bk _ _ hi;exact hC.lt);have NV:=ae (∀W',Below w.heap.size w W'→mL W' b (w.heap.size+1)) (fun W' hb l hl v hv e=>by
  have:=k.own _ _ hi l hl v (w.heap.size+1) ((hb.cell (p:=⟨b,20+l,none⟩) Qd.out).symm.trans hv) e;omega)
 obtain⟨RZ,Qm⟩:∃RZ,RZ=(#[.int .i64 0,.int .i64 0,.int .i64 0,.int .i64 0,.int .i64 0,.int .i64 0,.int .i64 0,.int .i64 0,.int .i64 0,.int .i64 0,.int .i64 0,.int .i64 0,.int .i64 0,.int .i64 0,.int .i64 0]:Array Value):=⟨_,rfl⟩;obtain⟨WL,cK⟩:∃WL,WL=(Wa.alloc (.cells RZ 31)).alloc (.cells #[.pointer (some ⟨Wa.heap.size,0,none⟩)] 173):=⟨_,rfl⟩;have hsL:WL.heap.size=w.heap.size+5:=by rw[cK];simp[sa]
 have BL:=ae (Below Wa.heap.size Wa WL) (by rw[cK];exact(ak.alloc aj _).alloc (by simp) _);have NL:=ae (af WL (Wa.heap.size+1) #[.pointer (some ⟨Wa.heap.size,0,none⟩)] 173) (by have h:=af.new (Wa.alloc (.cells RZ 31)) #[.pointer (some ⟨Wa.heap.size,0,none⟩)] 173;rw[size_alloc] at h;rw[cK];exact h);have I0:=ae (∀W',Below WL.heap.size WL W'→WL.heap.size+2≤W'.heap.size→fj b 2 (.func (.func 91) #[.pointer (some ⟨b,0,none⟩)] #[]) w cnt I bK [] W') (fun W' hb hs'=>by
  have hb0:Below Wa.heap.size Wa W':=BL.out.trans (hb.mono (by omega));have hb1:Below w.heap.size w W':=BA.out.trans (hb0.mono (by omega));exact⟨by simpa [dQ] using h.fF _ _ _ hi hb1,K0.out.below hb0 K0.out.lt,K1.out.below hb0 K1.out.lt,K2.out.below hb0 K2.out.lt,NV.out W' hb1,by omega⟩)
 have Tq:=aa hWa;have Ox:=aa cK;have TO:=aa Qm;have Tr:Wa.heap.size≤w.heap.size+3:=by omega
 have Ts:w.heap.size+3≤Wa.heap.size:=by omega
 have Tt:WL.heap.size≤w.heap.size+5:=by omega
 have Tu:w.heap.size+5≤WL.heap.size:=by omega
 clear h k hi hWa cK Qm sa hsL;refine(callsIn_wide (n:=6)).1 ?_;refine callsIn_of_wp_marks func89 rfl trivial ?_ rfl;simp only[ntmps89,size_toArray,length_cons,length_nil,Nat.reduceAdd,Nat.reduceSub,Array.replicate_succ,Array.replicate_zero,push_toArray,List.append_toArray,nil_append,cons_append];gi_upto_region 1 with fail
 rw[←Tq.out];refine wpIn_wide.2 ?_;go_wp2_with (first
  |(go_at_call 93;refine(callsIn_wide.1 (rI 0 _ _)).mono ?_;rintro e w' ⟨rfl,rfl⟩))
 gi_wp2
 rw[←TO.out, ←Ox.out];have hmx:prog.follows .mixedOrders=true:=by kernel_rfl
 refine mj (α:=Nat) rfl (by decide) (gf:=132) (lb:=#[.pointer (some ⟨Wa.heap.size+1,0,none⟩)]) rfl trivial (enters_of func132 (by kernel_rfl) rfl) (encs:=jG Wa.heap.size) (Kp:=(Kq n₀ (WL.heap.size+2) dL)) Kq.trans (fun A o o' ho hc=>Kq.put o' (by omega) (by omega) ho hc)
  (Ok:=fun pre x _=>x=pre.length∧x<14) (S:=fun xs=>xs=range 14) (Sp:=fun _=>True)
  (fun W1 hb1 hs1=>by
   have:=rJ 5 (Wa.heap.size+1) Wa.heap.size n₀ (WL.heap.size+2) dL (by unfold dL;decide) W1 (NL.out.below hb1 NL.out.lt);exact this)
  (fun _=>rfl) (fj b 2 (.func (.func 91) #[.pointer (some ⟨b,0,none⟩)] #[]) w cnt I bK) (fun c pre W=>False) (fj.dU HK.out (by omega)) (by rintro c pre A B row h hg hr;exact h)
  (fun W' hb hs'=>I0.out W' hb (by omega))
  (fun pre x a' Wx=>∃c,a'={tmps:=#[.pointer (some ⟨b,0,none⟩),.int .i64 2,.func (.func 91) #[.pointer (some ⟨b,0,none⟩)] #[],.pointer (some ⟨w.heap.size,0,none⟩),.pointer (some ⟨w.heap.size+1,0,none⟩),.pointer (some ⟨w.heap.size+1+1,0,none⟩),.pointer (some ⟨c,0,none⟩),.agg RZ,.pointer (some ⟨Wa.heap.size,0,none⟩),.func (.func 132) #[] #[.pointer (some ⟨Wa.heap.size+1,0,none⟩)],bh (bT x) (cq x),.pointer (some ⟨Wa.heap.size,1+x,none⟩),undef,undef,undef,undef,undef],defers:=[]}∧af Wx c #[.int .i64 (bT x:Int),.int .i64 (cq x:Int)] 175∧fj b 2 (.func (.func 91) #[.pointer (some ⟨b,0,none⟩)] #[]) w cnt I bK pre Wx∧x=pre.length∧x<14) ?ax ?assign ?body ?done ?stop
 case ax=>
  rintro pre x a' A B ⟨c,h1,h2,h3,h4⟩ hg hr;exact⟨c,h1,kR h2 hg hr,fj.dU HK.out (z:=WL.heap.size+1) (by omega) pre A B _ h3 hg (fun r e=>by cases e;exact⟨aj,hr⟩),h4⟩
 case assign=>
  rintro l pre x Wx K hI hok hK;have Oj:=aa (ai hI (ai hok hK));clear hI hok hK;unfold jG;gi_wp2
  have bA:Below Wx.heap.size Wx (Wx.alloc (.cells #[.int .i64 (bT x:Int),.int .i64 (cq x:Int)] 175)):=ak.alloc aj _;have gA:Wx.grownBy (Wx.alloc (.cells #[.int .i64 (bT x:Int),.int .i64 (cq x:Int)] 175)) none:=⟨bA.os,bA.tape,bA.output,bA.size,fun k hk _=>bA.block k hk⟩;exact Oj.out.2.2 _ _ (lK bA) (Kq.cV bA (by have:=Oj.out.1.size;omega)) ⟨_,rfl,af.new _ _ _,fj.dU HK.out (z:=n₀) aj pre _ _ none Oj.out.1 gA (fun r e=>by cases e),Oj.out.2.1⟩
 case body=>
  rintro l pre x a' Wx ⟨c,rfl,kc,hI,hx,NR⟩;have HX:=aa (ai hI (ai kc hx));have eU:=aa (dX kc);have c0:=(hI.bw.cell 0).trans (show _=some (.pointer (some ⟨b,0,none⟩)) from rfl);have c1:=(hI.bl.cell 0).trans (show _=some (.int .i64 2) from rfl);have c2:=(hI.bf.cell 0).trans (show _=some (.func (.func 91) #[.pointer (some ⟨b,0,none⟩)] #[]) from rfl);clear hI kc hx;gi_wp2_with (first
   |(refine lJ rfl 175 _ rfl c 0 rfl [.int .i64 (bT x:Int),.int .i64 (cq x:Int)] _ eU.out underlying175 rfl bZ ?_)
   |(refine⟨trivial,?_⟩;gi_at_call 125;refine(CallsIn.inRound l (callsIn_wide.2 (Jy cnt n b ca cc _ I H.out (bT x) (cq x) (vn x) _ _ (pM NR) HX.out.1.inv (by rw[←HX.out.2.2];exact oC (f:=fun j=>visit cnt 2 (bT j) (cq j)) NR (prefix_refl _))))).mono ?_;rintro e w9 ⟨rfl,i9,y9⟩;have H9:=aa (ai i9 y9);clear i9 y9))
  have kF:∀z,Kq n₀ z dL Wx w9:=fun z=>H9.out.2.kq (HK.out.low _ _ HX.out.1.inv) (HK.out.low _ _ H9.out.1);have hf:=H9.out.2.2.1 (by obtain⟨C,hC⟩:=HK.out.bk _ _ HX.out.1.inv;exact hC.lt);have hx2:=hf.2 _ _ HX.out.1.bl HX.out.1.apt;have HN:=ae (fj b 2 (.func (.func 91) #[.pointer (some ⟨b,0,none⟩)] #[]) w cnt I bK (pre++[x]) w9) (⟨by rw[length_append,List.length_singleton,vm, ←append_assoc, ←HX.out.2.2];have:=H9.out.1;rw[←HX.out.2.2] at this;exact this,H9.out.2.blk HX.out.1.bw (by unfold dL;decide),hx2.1,H9.out.2.blk HX.out.1.bf (by unfold dL;decide),hx2.2,aK HX.out.1.size (kF 0).size⟩);exact⟨(kF _).iM,kF _,HN.out⟩
 case done=>
  rintro xs Wx hS hI hK;subst hS;have HD:=aa (ai hI.inv hK);clear hI hK;gi_wp2
  have hD:=HD.out.2;refine⟨by simp,.inl ⟨_,_,rfl,run_takeDeferred hD,?_⟩⟩;refine⟨_,results_none rfl _ _ _,rfl,?_⟩;have:=HK.out.ab n₀ aj _ Wx (Wx.putObj WL.heap.size (.deferred none)) (some WL.heap.size) HD.out.1 (grownBy_putObj' _ _ _) (fun r e=>by cases e;exact⟨by omega,_,hD,rfl⟩);simpa using this
 case stop=>
  rintro c pre W _ hf;exact hf.elim
end
section
open Go.RowKit
def lq(cs:List Int)(D:RD)(r:Nat):RD:=D.place 0 r (decide (gO cs r=replicate 512 0)) (gO cs r)
def lX(l:Nat)(D:RD)(r:Nat):RD:=D.place (l+1) r (decide (gh D.Ln l r=replicate 128 0)) (eE (gh D.Ln l r))
theorem As(cnt s:Nat)(m:Nat):(range m).flatMap (fun k=>if cnt≤s+k then [] else [s+k])=range' s (min m (cnt-s)):=by
 induction m with
 |zero=>simp
 |succ m ih=>
  rw[range_succ,flatMap_append,ih];simp only[flatMap_cons,flatMap_nil,append_nil];by_cases h:cnt≤s+m
  ·rw[if_pos h,append_nil,show min (m+1) (cnt-s)=min m (cnt-s) by omega]
  ·rw[if_neg h,show min (m+1) (cnt-s)=m+1 by omega,show min m (cnt-s)=m by omega,List.range'_concat];simp
theorem JA(cnt s:Nat)(m:Nat):(range m).flatMap (fun k=>range' (s+128*k) (min 128 (cnt-(s+128*k))))=range' s (min (128*m) (cnt-s)):=by
 induction m with
 |zero=>simp
 |succ m ih=>
  rw[range_succ,flatMap_append,ih];simp only[flatMap_cons,flatMap_nil,append_nil];by_cases h:cnt≤s+128*m
  ·rw[show min 128 (cnt-(s+128*m))=0 by omega,show min (128*(m+1)) (cnt-s)=min (128*m) (cnt-s) by omega];simp
  ·rw[show min (128*m) (cnt-s)=128*m by omega,show min (128*(m+1)) (cnt-s)=128*m+min 128 (cnt-(s+128*m)) by omega, ←range'_append_1]
theorem JB(cnt c s:Nat)(m:Nat):(range m).flatMap (fun k=>if cnt≤c+128*k then [] else [s+k])=range' s (min m ((cnt-c+127)/128)):=by
 induction m with
 |zero=>simp
 |succ m ih=>
  rw[range_succ,flatMap_append,ih];simp only[flatMap_cons,flatMap_nil,append_nil];by_cases h:cnt≤c+128*m
  ·rw[if_pos h,append_nil,show min (m+1) ((cnt-c+127)/128)=min m ((cnt-c+127)/128) by omega]
  ·rw[if_neg h,show min (m+1) ((cnt-c+127)/128)=m+1 by omega,show min m ((cnt-c+127)/128)=m by omega,List.range'_concat];simp
theorem Au(r:Nat):aT 1 r=12+r*128:=by simp[aT,bI]
theorem vp:aT 2 0=140:=by simp[aT,bI]
theorem Av(cnt r:Nat):visit cnt 0 0 r=if cnt≤r then [] else [r]:=by
 rw[visit];by_cases h:cnt≤r
 ·rw[if_pos (.inr h),if_pos h]
 ·rw[if_neg (fun h1=>h1.elim (fun h1=>by omega) h),if_neg h]
theorem Aw(cnt r:Nat):visit cnt 0 1 r=range' (12+r*128) (min 128 (cnt-(12+r*128))):=by
 have h0:=Au r;rw[visit];by_cases h:cnt≤12+r*128
 ·rw[if_pos (.inr (by rw[h0];exact h)),show cnt-(12+r*128)=0 by omega];simp
 ·rw[if_neg (fun h1=>h1.elim (fun h1=>by omega) (fun h1=>h (by rw[h0] at h1;exact h1))),if_neg (by omega)];rw[←As];congr 1;funext k;rw[Av];simp[bI]
theorem JC(cnt:Nat):visit cnt 0 2 0=range' 140 (min (128*128) (cnt-140)):=by
 have h0:=vp;rw[visit];by_cases h:cnt≤140
 ·rw[if_pos (.inr (by rw[h0];exact h)),show cnt-140=0 by omega];simp
 ·rw[if_neg (fun h1=>h1.elim (fun h1=>by omega) (fun h1=>h (by rw[h0] at h1;exact h1))),if_neg (by omega)];rw[←JA cnt 140 128];congr 1;funext k;rw[Aw,show 12+bI 1 0 k*128=140+128*k by simp[bI];omega]
theorem Ay(cnt r:Nat):visit cnt 1 1 r=if cnt≤12+r*128 then [] else [r]:=by
 have h0:=Au r;rw[visit];by_cases h:cnt≤12+r*128
 ·rw[if_pos (.inr (by rw[h0];exact h)),if_pos h]
 ·rw[if_neg (fun h1=>h1.elim (fun h1=>by omega) (fun h1=>h (by rw[h0] at h1;exact h1))),if_pos rfl,if_neg h]
theorem JD(cnt:Nat):visit cnt 1 2 0=range' 1 (min 128 ((cnt-140+127)/128)):=by
 have h0:=vp;rw[visit];by_cases h:cnt≤140
 ·rw[if_pos (.inr (by rw[h0];exact h)),show min 128 ((cnt-140+127)/128)=0 by omega];simp
 ·rw[if_neg (fun h1=>h1.elim (fun h1=>by omega) (fun h1=>h (by rw[h0] at h1;exact h1))),if_neg (by omega), ←JB];congr 1;funext k;rw[Ay,show 12+bI 1 0 k*128=140+128*k by simp[bI];omega];simp[bI]
theorem JE(cnt:Nat):visit cnt 2 2 0=if 140<cnt then [0] else []:=by
 have h0:=vp;rw[visit];by_cases h:cnt≤140
 ·rw[if_pos (.inr (by rw[h0];exact h)),if_neg (by omega)]
 ·rw[if_neg (fun h1=>h1.elim (fun h1=>by omega) (fun h1=>h (by rw[h0] at h1;exact h1))),if_pos rfl,if_pos (by omega)]
theorem vq(cnt lvl l r:Nat)(h:l<lvl):visit cnt lvl l r=[]:=by
 cases l with
 |zero=>rw[visit,if_pos (.inl h)]
 |succ l=>rw[visit,if_pos (.inl h)]
theorem vr(cnt lvl:Nat):dQ cnt lvl 14=(range 12).flatMap (fun j=>visit cnt lvl 0 j)++(visit cnt lvl 1 0++visit cnt lvl 2 0):=by
 unfold dQ;rw[show range 14=range 12++[12,13] from rfl,flatMap_append];congr 1;show visit cnt lvl (bT 12) (cq 12)++(visit cnt lvl (bT 13) (cq 13)++[])=_;rw[append_nil];rfl
theorem Az(n:Nat)(f:Nat→List Nat)(h:∀k,f k=[]):(range n).flatMap f=[]:=by
 rw[show f=fun _=>[] from funext h];simp
theorem oD{cnt:Nat}(h:cnt≤512):dQ cnt 0 14=range cnt∧dQ cnt 1 14=range ((cnt+115)/128)∧dQ cnt 2 14=if 140<cnt then [0] else []:=by
 refine⟨?_,?_,?_⟩
 ·rw[vr,Aw,JC,show(fun j=>visit cnt 0 0 j)=(fun k=>if cnt≤0+k then [] else [0+k]) by funext k;rw[Av];simp,As,List.range_eq_range'];by_cases h1:cnt≤12
  ·rw[show min 12 (cnt-0)=cnt by omega,show min 128 (cnt-(12+0*128))=0 by omega,show min (128*128) (cnt-140)=0 by omega];simp
  ·by_cases h2:cnt≤140
   ·rw[show min 12 (cnt-0)=12 by omega,show min 128 (cnt-(12+0*128))=cnt-12 by omega,show min (128*128) (cnt-140)=0 by omega];have:=range'_append_1 (s:=0) (m:=12) (n:=cnt-12);rw[show 12+(cnt-12)=cnt by omega] at this;simpa using this
   ·rw[show min 12 (cnt-0)=12 by omega,show min 128 (cnt-(12+0*128))=128 by omega,show min (128*128) (cnt-140)=cnt-140 by omega];have h3:=range'_append_1 (s:=0) (m:=12) (n:=128);have h4:=range'_append_1 (s:=0) (m:=140) (n:=cnt-140);rw[show 140+(cnt-140)=cnt by omega] at h4;rw[←h4,show 140=12+128 by rfl, ←h3];simp
 ·rw[vr,Ay,JD,Az 12 _ (fun k=>vq cnt 1 0 k (by omega)),nil_append,List.range_eq_range'];by_cases h1:cnt≤12
  ·rw[if_pos (by omega),show min 128 ((cnt-140+127)/128)=0 by omega,show(cnt+115)/128=0 by omega];simp
  ·rw[if_neg (by omega),show min 128 ((cnt-140+127)/128)=(cnt-140+127)/128 by omega];have h3:=range'_append_1 (s:=0) (m:=1) (n:=(cnt-140+127)/128);rw[show 1+(cnt-140+127)/128=(cnt+115)/128 by omega] at h3;simpa using h3
 ·rw[vr,JE,Az 12 _ (fun k=>vq cnt 2 0 k (by omega)),vq cnt 2 1 0 (by omega)];simp
theorem AA(L:List Int)(x:Int):dD L L.length x=L++[x]:=by
 unfold dD;rw[show L.length+1-L.length=1 by omega];simp
theorem JF(n:Nat):dD (replicate n 0) n 0=replicate (n+1) 0:=by
 have:=AA (replicate n 0) 0;rw[List.length_replicate] at this;rw[this,List.replicate_succ']
theorem JG(cs:List Int)(D0:RD)(a:Nat)(h0:D0.Ln 0=[])(hz:∀i,i<a→gO cs i=replicate 512 0):(range a).foldl (lq cs) D0={D0 with Ln:=aO D0.Ln 0 (replicate a 0)}:=by
 induction a with
 |zero=>
  simp only[List.range_zero,List.foldl_nil,List.replicate_zero];rw[←h0];have:aO D0.Ln 0 (D0.Ln 0)=D0.Ln:=by
   funext k;unfold aO;split
   ·rename_i e
    rw[e]
   ·rfl
  rw[this]
 |succ a ih=>
  rw[range_succ,foldl_append,ih (fun i hi=>hz i (by omega))];simp only[List.foldl_cons,List.foldl_nil];unfold lq RD.place RD.oz;rw[if_pos (by rw[hz a (by omega)];exact decide_eq_true rfl)];simp only[bY];rw[JF];congr 1;funext k;unfold aO;split<;>rfl
end
section
open Go.RowKit Go.Shelf
theorem AB{A B:World}{row:Option Nat}{base n z sz:Nat}{e:TypeId}{v:Value}{xs:List Value}(h:A.ownsRow base e sz v n xs)(hg:A.grownBy B row)(hr:∀r,row=some r→z≤r∧∃o,A.heap[r]?=some o∧o.isCells=false):B.ownsRow base e sz v n xs:=by
 refine h.kept hg ?_;cases hb:v.ownBlock with
 |none=>exact .inl rfl
 |some k=>
  refine .inr (fun e'=>?_);obtain⟨_,o,ho,hc⟩:=hr k e'.symm;rcases h.2 with⟨rfl,_⟩|⟨g,cap,cur,rfl,_,hgg,_⟩
  ·cases hb
  ·have:g=k:=Option.some.inj hb;subst this;rw[hgg] at ho;cases ho
   cases hc
theorem dW.dU{W0:World}{b z:Nat}{D:RD}(hz:W0.heap.size≤z){A B:World}{row:Option Nat}(h:dW W0 A b D)(hg:A.grownBy B row)(hr:∀r,row=some r→z≤r∧∃o,A.heap[r]?=some o∧o.isCells=false):dW W0 B b D:=by
 obtain⟨C,so,sl,fv,pv,vs,h⟩:=h;refine⟨C,so,sl,fv,pv,vs,⟨h.Ro,h.size,h.tr,h.cv,h.old.fH hg hr,h.now.fH hg hr,h.apart,h.fn,?_,h.ps,⟨h.dK.len,h.dK.pre,AB h.dK.row hg hr,fun i u l hu hl=>AB (h.dK.dat i u l hu hl) hg hr,h.dK.one⟩,h.sh,h.lo,lM h.low hz h.low.size hg hr⟩⟩;have hs:=h.sup;cases hst:D.st with
 |none=>rw[hst] at hs;exact hs
 |some L=>
  rw[hst] at hs;obtain⟨g,a,cap,e1,e2,e3,e4⟩:=hs;exact⟨g,a,cap,e1,e2,dZ e3 hg hr,e4⟩
structure lu(D0 D:RD)(n:Nat):Prop where
 tr:D.tr=D0.tr
 cv:D.cv=D0.cv
 Lo:D.Lo=D0.Lo
 P:D.P.length≤D0.P.length+n
 Ln:∀l,(D.Ln l).length≤max (D0.Ln l).length 513
theorem lu.place{D0 D:RD}{n l r:Nat}{z:Bool}{ys:List Int}(h:lu D0 D n)(hr:r<513):lu D0 (D.place l r z ys) (n+1):=by
 have hL:∀(x:Int) k,((aO D.Ln l (dD (D.Ln l) r x)) k).length≤max (D0.Ln k).length 513:=fun x k=>by
  by_cases e:k=l
  ·subst e;rw[bY,nY];have:=h.Ln k;omega
  ·rw[aU _ _ _ _ e];exact h.Ln k
 unfold RD.place;split
 ·exact⟨h.tr,h.cv,h.Lo,by have:=h.P;show D.P.length≤_;omega,hL 0⟩
 ·unfold RD.fresh;split
  ·exact⟨h.tr,h.cv,h.Lo,by have:=h.P;show(D.P++[_]).length≤_;rw[length_append];simp;omega,hL _⟩
  ·exact⟨h.tr,h.cv,h.Lo,by have:=h.P;show D.P.length≤_;omega,hL _⟩
structure p5(W0:World)(b:Nat)(D0:RD)(step:RD→Nat→RD)(pre:List Nat)(w:World):Prop where
 st:dW W0 w b (pre.foldl step D0)
 kp:lu D0 (pre.foldl step D0) pre.length
theorem vu(W0:World)(b:Nat)(D0:RD)(step:RD→Nat→RD):p4 W0.heap.size b W0 (p5 W0 b D0 step):=by
 refine⟨fun z hz pre A B row h hg hr=>⟨h.st.dU hz hg hr,h.kp⟩,fun pre w h=>?_,fun pre w h l hl v g hv hg=>?_,fun pre w h=>?_,aj⟩
 ·obtain⟨C,so,sl,fv,pv,vs,hS⟩:=h.st;exact⟨C,hS.now.box⟩
 ·obtain⟨C,so,sl,fv,pv,vs,hS⟩:=h.st;have h1:=(hS.now.box.cell (20+l)).trans (hS.now.at_ l hl);rw[h1] at hv;cases hv
  exact((hS.now.row l hl).lt g hg).2
 ·obtain⟨C,so,sl,fv,pv,vs,hS⟩:=h.st;exact hS.low
theorem AD{pre F:List Nat}{r:Nat}(h:pre++[r]<+:F):pre.length<F.length:=by have:=h.length_le;simp at this;omega
theorem JH(W0 w:World)(b n cnt:Nat)(ca:Option Addr)(cc:Nat)(cs:List Int)(D0:RD)(h:dW W0 w b D0)(hcv:D0.cv=.slice ca n cc)(hn:n=cs.length)(hR:Rd .u8 W0 (.slice ca n cc) cs)(hcs:cs.length≤262144)(hcnt:cnt=(n+511)/512)(hL:∀l,l<3→(D0.Ln l).length≤513)(hP:D0.P.length≤2000)(ho:∀l r,(D0.Lo l).getD r 0=0):
 Calls prog 89 #[.pointer (some ⟨b,0,none⟩),.int .i64 0,.func (.func 90) #[.pointer (some ⟨b,0,none⟩)] #[]] w fun e w'=>e=.returned (.tuple #[])∧dW W0 w' b ((dQ cnt 0 14).foldl (lq cs) D0)∧lu D0 ((dQ cnt 0 14).foldl (lq cs) D0) (dQ cnt 0 14).length:=by
 have hc:cnt≤512:=by omega
 have hlv:(dQ cnt 0 14).length≤512:=by rw[(oD hc).1,List.length_range];omega
 have hk0:lu D0 D0 0:=⟨rfl,rfl,rfl,by omega,fun l=>by omega⟩;refine(Ju W0.heap.size cnt n b ca cc (p5 W0 b D0 (lq cs)) W0 [] ⟨fun pre w1 h1=>?_,fun pre w1 w2 h1 hb=>⟨h1.st.below hb,h1.kp⟩,fun pre rr w1 h1 hp hf=>?_,hcnt,by omega⟩ (vu W0 b D0 _) w ⟨h,hk0⟩).mono ?_
 ·obtain⟨C,so,sl,fv,pv,vs,hS⟩:=h1.st;refine⟨(hS.now.box.cell 16).trans (hS.cv.trans ?_),hS.now.box.lt⟩;rw[h1.kp.cv,hcv]
 ·have hpl:=AD hp;rw[nil_append] at hpl;have hr:rr<cnt:=Nat.lt_of_le_of_lt (fY 0 rr) hf;refine(Ji W0 w1 b rr n ca cc cs _ h1.st (by rw[h1.kp.cv,hcv]) hn hR hcs (by omega) (by have:=h1.kp.Ln 0;have:=hL 0 (by omega);omega) (by have:=h1.kp.P;omega) (by rw[h1.kp.Lo];exact ho _ _)).mono ?_;rintro e w2 ⟨rfl,r2,y2,b2⟩;refine⟨rfl,⟨by rw[foldl_append];exact r2,?_⟩,y2⟩;rw[foldl_append,length_append];exact h1.kp.place (by omega)
 ·rintro e w' ⟨rfl,h1⟩;exact⟨rfl,h1.st,h1.kp⟩
theorem AE(l:Nat)(hl:l<2)(W0 w:World)(b n cnt:Nat)(ca:Option Addr)(cc:Nat)(D0:RD)(h:dW W0 w b D0)(hcv:D0.cv=.slice ca n cc)(hn:n≤262144)(hcnt:cnt=(n+511)/512)(hg:eM W0)(hL:∀l,l<3→(D0.Ln l).length≤513)(hP:D0.P.length≤2000)(ho:∀l r,(D0.Lo l).getD r 0=0):
 Calls prog 89 #[.pointer (some ⟨b,0,none⟩),.int .i64 ((l:Int)+1),.func (.func 91) #[.pointer (some ⟨b,0,none⟩)] #[]] w fun e w'=>e=.returned (.tuple #[])∧dW W0 w' b ((dQ cnt (l+1) 14).foldl (lX l) D0)∧lu D0 ((dQ cnt (l+1) 14).foldl (lX l) D0) (dQ cnt (l+1) 14).length:=by
 have hc:cnt≤512:=by omega
 have hlv:(dQ cnt (l+1) 14).length≤512:=by
  match l,hl with
  |0,_=>rw[(oD hc).2.1,List.length_range];omega
  |1,_=>rw[(oD hc).2.2];split<;>simp
 have hk0:lu D0 D0 0:=⟨rfl,rfl,rfl,by omega,fun l=>by omega⟩;have hW:iH 91 (l+1) cnt n b ca cc ([]++dQ cnt (l+1) 14) (p5 W0 b D0 (lX l)):=by
  refine⟨fun pre w1 h1=>?_,fun pre w1 w2 h1 hb=>⟨h1.st.below hb,h1.kp⟩,fun pre rr w1 h1 hp hf=>?_,hcnt,hn⟩
  ·obtain⟨C,so,sl,fv,pv,vs,hS⟩:=h1.st;refine⟨(hS.now.box.cell 16).trans (hS.cv.trans ?_),hS.now.box.lt⟩;rw[h1.kp.cv,hcv]
  ·have hpl:=AD hp;rw[nil_append] at hpl;have hr:rr<cnt:=Nat.lt_of_le_of_lt (fY (l+1) rr) hf;have hgw:eM w1:=by
    obtain⟨C,so,sl,fv,pv,vs,hS⟩:=h1.st;exact hg.below hS.low
   refine(Jk W0 w1 b l rr _ h1.st hl (by omega) (by have:=h1.kp.Ln (l+1);have:=hL (l+1) (by omega);omega) (by have:=h1.kp.P;omega) (by rw[h1.kp.Lo];exact ho _ _) hgw).mono ?_;rintro e w2 ⟨rfl,r2,y2,b2⟩;refine⟨rfl,⟨by rw[foldl_append];exact r2,?_⟩,y2⟩;rw[foldl_append,length_append];exact h1.kp.place (by omega)
 match l,hl,hW with
 |0,_,hW=>
  refine(Jw W0.heap.size cnt n b ca cc (p5 W0 b D0 (lX 0)) W0 [] hW (vu W0 b D0 _) w ⟨h,hk0⟩).mono ?_;rintro e w' ⟨rfl,h1⟩;exact⟨rfl,h1.st,h1.kp⟩
 |1,_,hW=>
  refine(Jz W0.heap.size cnt n b ca cc (p5 W0 b D0 (lX 1)) W0 [] hW (vu W0 b D0 _) w ⟨h,hk0⟩).mono ?_;rintro e w' ⟨rfl,h1⟩;exact⟨rfl,h1.st,h1.kp⟩
end
end Go.Proofs.YtpplnhkpcpieoaaGreatDoor
