/- An inode made of a node, the program's and the model's -/
import Derived.Deep.Cut
import Derived.Test.YtpplnhkpcpieoaaGreatDoorZx39
namespace Go.Proofs.YtpplnhkpcpieoaaGreatDoor
open Go.Proofs.Tryz
open _root_.List (replicate range length_take mem_cons_of_mem mem_cons_self)
set_option linter.all false
set_option maxRecDepth 100000
set_option maxHeartbeats 16000000
section
open Go.RowKit
structure mP where
 k:Int
 l:Int
 m:Int
 u:Int
 g:Int
 p:Int
 e:Int
 t:Int
 c:Int
def sD(x:mP)(v:Value):Array Value:=#[.int .i64 x.k,.int .i64 x.l,.int .i64 x.m,.int .i64 x.u,.int .i64 x.g,.int .i64 x.p,.int .i64 x.e,.int .i64 x.t,.int .i64 x.c,v]
def l6(x:mP)(s:Int):List Int:=dI [x.k,x.l,x.m,x.u,x.g,x.p,x.e,x.t,x.c] s (replicate 12 0) 0 0
theorem Lf{P:Program}{ops:Array Oper}{rest:List Oper}{o:Oper}{a:Act}{w:World}{Q:Exit→Act→World→Prop}(B:Nat)(W0:World)(hgd:o.guard=none)(ty:TypeId)(x y:Operand)(ho:o.op=.store ty x y)
 (g:Nat) (cells:Array Value) (hx:a.eval x=.pointer (some ⟨g,0,none⟩)) (hy:a.eval y=.agg cells)
 (t:TypeId) (old:Array Value) (hg:af w g old t) (hi:(P.info? ty).map (·.size)=some cells.size)
 (hold:old.size=cells.size) (h1:cells.all (·.oneCell')=true) (hB:Below B W0 w) (hBg:B≤g)
 (h:∀w2,af w2 g cells t→Below B W0 w2→wpList P ops Q rest (a.put o.dst undef) w2):wpList P ops Q (o::rest) a w:=
 wpList_store_row hgd ty x y ho g cells hx hy t old hg hi hold h1 (h _ (hg.row cells) (below_setRow hB hBg cells))
theorem Lg(l:List Int):(an l).all (·.oneCell')=true:=by simp[an,Array.all_eq_true,Value.oneCell']
theorem Bi(x:mP)(s:Int):(an (l6 x s)).size=24:=by rw[ct];exact yN _ _ _ _ _ rfl rfl
structure p7(b off B:Nat)(x:mP)(s:Int)(w:World):Prop where
 c0:w.cell? ⟨b,off,none⟩=some (.int .i64 x.k)
 c1:w.cell? ⟨b,off+1,none⟩=some (.int .i64 x.l)
 c2:w.cell? ⟨b,off+2,none⟩=some (.int .i64 x.m)
 c3:w.cell? ⟨b,off+3,none⟩=some (.int .i64 x.u)
 c4:w.cell? ⟨b,off+4,none⟩=some (.int .i64 x.g)
 c5:w.cell? ⟨b,off+5,none⟩=some (.int .i64 x.p)
 c6:w.cell? ⟨b,off+6,none⟩=some (.int .i64 x.e)
 c7:w.cell? ⟨b,off+7,none⟩=some (.int .i64 x.t)
 c8:w.cell? ⟨b,off+8,none⟩=some (.int .i64 x.c)
 box:w.rangeAt B 0 [.int .i64 s,.int .i64 0,.int .i64 0,.int .i64 0,.int .i64 0,.int .i64 0,.int .i64 0,.int .i64 0,.int .i64 0,.int .i64 0,.int .i64 0,.int .i64 0,.int .i64 0,.int .i64 0,.int .i64 0]
theorem p7.below{b off B:Nat}{x:mP}{s:Int}{w w':World}(h:p7 b off B x s w){z:Nat}(h1:b<z)(h2:B<z)(hb:Below z w w'):p7 b off B x s w':=
 ⟨(hb.cell (p:=⟨b,off,none⟩) h1).trans h.c0,(hb.cell (p:=⟨b,off+1,none⟩) h1).trans h.c1,(hb.cell (p:=⟨b,off+2,none⟩) h1).trans h.c2,(hb.cell (p:=⟨b,off+3,none⟩) h1).trans h.c3,(hb.cell (p:=⟨b,off+4,none⟩) h1).trans h.c4,(hb.cell (p:=⟨b,off+5,none⟩) h1).trans h.c5,(hb.cell (p:=⟨b,off+6,none⟩) h1).trans h.c6,(hb.cell (p:=⟨b,off+7,none⟩) h1).trans h.c7,(hb.cell (p:=⟨b,off+8,none⟩) h1).trans h.c8,fun i u hu=>(hb.cell (p:=⟨B,0+i,none⟩) h2).trans (h.box i u hu)⟩
theorem Lh{w:World}{b o:Nat}{cs:List Value}(h:w.rangeAt b o cs)(x:Obj):(w.alloc x).rangeAt b o cs:=fun i u hu=>by
 have h1:=h i u hu;rw[World.cell?_alloc_lt _ _ _ (eu h1)];exact h1
theorem Bj:(prog.info? 31).map (·.size)=some 15:=by kernel_rfl
theorem Lj(x:mP)(dv:Value)(s:Int)(b off:Nat)(w:World)(hr:w.rangeAt b off (sD x dv).toList):
 Calls prog 54 #[.pointer (some ⟨b,off,none⟩),.agg #[.int .i64 s,.int .i64 0,.int .i64 0,.int .i64 0,.int .i64 0,.int .i64 0,.int .i64 0,.int .i64 0,.int .i64 0,.int .i64 0,.int .i64 0,.int .i64 0,.int .i64 0,.int .i64 0,.int .i64 0]] w fun e w'=>e=.returned (.agg (an (l6 x s)))∧Below w.heap.size w w':=by
 obtain⟨W1,hW1⟩:∃W1,W1=w.alloc (.cells #[.int .i64 s,.int .i64 0,.int .i64 0,.int .i64 0,.int .i64 0,.int .i64 0,.int .i64 0,.int .i64 0,.int .i64 0,.int .i64 0,.int .i64 0,.int .i64 0,.int .i64 0,.int .i64 0,.int .i64 0] 31):=⟨_,rfl⟩;obtain⟨W2,hW2⟩:∃W2,W2=W1.alloc (.cells #[.int .i64 0,.int .i64 0,.int .i64 0,.int .i64 0,.int .i64 0,.int .i64 0,.int .i64 0,.int .i64 0,.int .i64 0,.int .i64 0,.int .i64 0,.int .i64 0,.int .i64 0,.int .i64 0,.int .i64 0,.int .i64 0,.int .i64 0,.int .i64 0,.int .i64 0,.int .i64 0,.int .i64 0,.int .i64 0,.int .i64 0,.int .i64 0] 33):=⟨_,rfl⟩;have hs1:W1.heap.size=w.heap.size+1:=by rw[hW1];simp
 have b2:Below w.heap.size w W2:=by rw[hW2,hW1];exact(ak.alloc aj _).alloc (by simp) _
 have kI:=ae (af W2 (w.heap.size+1) #[.int .i64 0,.int .i64 0,.int .i64 0,.int .i64 0,.int .i64 0,.int .i64 0,.int .i64 0,.int .i64 0,.int .i64 0,.int .i64 0,.int .i64 0,.int .i64 0,.int .i64 0,.int .i64 0,.int .i64 0,.int .i64 0,.int .i64 0,.int .i64 0,.int .i64 0,.int .i64 0,.int .i64 0,.int .i64 0,.int .i64 0,.int .i64 0] 33) (by rw[hW2, ←hs1];exact af.new W1 _ _);have hN:=ae (p7 b off w.heap.size x s W2) (by
  have h2:W2.rangeAt b off (sD x dv).toList:=fun i u hu=>by
   have h1:=hr i u hu;exact(b2.cell (eu h1)).trans h1
  have hb:W2.rangeAt w.heap.size 0 [.int .i64 s,.int .i64 0,.int .i64 0,.int .i64 0,.int .i64 0,.int .i64 0,.int .i64 0,.int .i64 0,.int .i64 0,.int .i64 0,.int .i64 0,.int .i64 0,.int .i64 0,.int .i64 0,.int .i64 0]:=by
   rw[hW2];refine Lh (fun i u hu=>?_) _;rw[hW1,Nat.zero_add];rw[(af.new w #[.int .i64 s,.int .i64 0,.int .i64 0,.int .i64 0,.int .i64 0,.int .i64 0,.int .i64 0,.int .i64 0,.int .i64 0,.int .i64 0,.int .i64 0,.int .i64 0,.int .i64 0,.int .i64 0,.int .i64 0] 31).cell i, ←Array.getElem?_toList];exact hu
  exact⟨h2 0 _ rfl,h2 1 _ rfl,h2 2 _ rfl,h2 3 _ rfl,h2 4 _ rfl,h2 5 _ rfl,h2 6 _ rfl,h2 7 _ rfl,h2 8 _ rfl,hb⟩)
 have HB:=aa b2;have hbw:b<w.heap.size:=eu (hr 0 _ rfl);have Oa:=ae (∀w',Below (w.heap.size+1) W2 w'→p7 b off w.heap.size x s w') (fun w' h=>hN.out.below (by omega) (by omega) h);have HW2:=ae (W2=(w.alloc (.cells #[.int .i64 s,.int .i64 0,.int .i64 0,.int .i64 0,.int .i64 0,.int .i64 0,.int .i64 0,.int .i64 0,.int .i64 0,.int .i64 0,.int .i64 0,.int .i64 0,.int .i64 0,.int .i64 0,.int .i64 0] 31)).alloc (.cells #[.int .i64 0,.int .i64 0,.int .i64 0,.int .i64 0,.int .i64 0,.int .i64 0,.int .i64 0,.int .i64 0,.int .i64 0,.int .i64 0,.int .i64 0,.int .i64 0,.int .i64 0,.int .i64 0,.int .i64 0,.int .i64 0,.int .i64 0,.int .i64 0,.int .i64 0,.int .i64 0,.int .i64 0,.int .i64 0,.int .i64 0,.int .i64 0] 33)) (by rw[hW2,hW1]);clear b2 hW1 hW2 hs1 hr;go_enter func54,ntmps54;go_upto_region 1 with fail;rw[←HW2.out];refine bg (fun w'=>Below (w.heap.size+1) W2 w') (ak.drew) fun hH=>?_;refine ah 0 (.pointer (some ⟨b,off,none⟩)) rfl hH ?_;refine ah 1 (.pointer (some ⟨b,off,none⟩)) rfl hH ?_;refine ah 2 (.pointer (some ⟨b,off,none⟩)) rfl hH ?_;refine ah 3 (.int .i64 x.k) rfl hH ?_ (aH fun w' hw'=>by have h9:=(Oa.out w' hw').c0;go_simp);refine ah 4 (.pointer (some ⟨b,off,none⟩)) rfl hH ?_;refine ah 5 (.pointer (some ⟨b,off,none⟩)) rfl hH ?_;refine ah 6 (.pointer (some ⟨b,off+1,none⟩)) rfl hH ?_;refine ah 7 (.int .i64 x.l) rfl hH ?_ (aH fun w' hw'=>by have h9:=(Oa.out w' hw').c1;go_simp);refine ah 8 (.pointer (some ⟨b,off,none⟩)) rfl hH ?_;refine ah 9 (.pointer (some ⟨b,off,none⟩)) rfl hH ?_;refine ah 10 (.pointer (some ⟨b,off+2,none⟩)) rfl hH ?_;refine ah 11 (.int .i64 x.m) rfl hH ?_ (aH fun w' hw'=>by have h9:=(Oa.out w' hw').c2;go_simp);refine ah 12 (.pointer (some ⟨b,off,none⟩)) rfl hH ?_;refine ah 13 (.pointer (some ⟨b,off,none⟩)) rfl hH ?_;refine ah 14 (.pointer (some ⟨b,off+3,none⟩)) rfl hH ?_;refine ah 15 (.int .i64 x.u) rfl hH ?_ (aH fun w' hw'=>by have h9:=(Oa.out w' hw').c3;go_simp);refine ah 16 (.pointer (some ⟨b,off,none⟩)) rfl hH ?_;refine ah 17 (.pointer (some ⟨b,off,none⟩)) rfl hH ?_;refine ah 18 (.pointer (some ⟨b,off+4,none⟩)) rfl hH ?_;refine ah 19 (.int .i64 x.g) rfl hH ?_ (aH fun w' hw'=>by have h9:=(Oa.out w' hw').c4;go_simp);refine ah 20 (.pointer (some ⟨b,off,none⟩)) rfl hH ?_;refine ah 21 (.pointer (some ⟨b,off,none⟩)) rfl hH ?_;refine ah 22 (.pointer (some ⟨b,off+5,none⟩)) rfl hH ?_;refine ah 23 (.int .i64 x.p) rfl hH ?_ (aH fun w' hw'=>by have h9:=(Oa.out w' hw').c5;go_simp);refine ah 24 (.pointer (some ⟨b,off,none⟩)) rfl hH ?_;refine ah 25 (.pointer (some ⟨b,off,none⟩)) rfl hH ?_;refine ah 26 (.pointer (some ⟨b,off+6,none⟩)) rfl hH ?_;refine ah 27 (.int .i64 x.e) rfl hH ?_ (aH fun w' hw'=>by have h9:=(Oa.out w' hw').c6;go_simp);refine ah 28 (.pointer (some ⟨b,off,none⟩)) rfl hH ?_;refine ah 29 (.pointer (some ⟨b,off,none⟩)) rfl hH ?_;refine ah 30 (.pointer (some ⟨b,off+7,none⟩)) rfl hH ?_;refine ah 31 (.int .i64 x.t) rfl hH ?_ (aH fun w' hw'=>by have h9:=(Oa.out w' hw').c7;go_simp);refine ah 32 (.pointer (some ⟨b,off,none⟩)) rfl hH ?_;refine ah 33 (.pointer (some ⟨b,off,none⟩)) rfl hH ?_;refine ah 34 (.pointer (some ⟨b,off+8,none⟩)) rfl hH ?_;refine ah 35 (.int .i64 x.c) rfl hH ?_ (aH fun w' hw'=>by have h9:=(Oa.out w' hw').c8;go_simp);refine ah 36 (.agg #[.int .i64 s,.int .i64 0,.int .i64 0,.int .i64 0,.int .i64 0,.int .i64 0,.int .i64 0,.int .i64 0,.int .i64 0,.int .i64 0,.int .i64 0,.int .i64 0,.int .i64 0,.int .i64 0,.int .i64 0]) rfl hH ?_ (yieldsIf_load_mid (by rfl) 31 _ rfl w.heap.size 0 rfl [.int .i64 s,.int .i64 0,.int .i64 0,.int .i64 0,.int .i64 0,.int .i64 0,.int .i64 0,.int .i64 0,.int .i64 0,.int .i64 0,.int .i64 0,.int .i64 0,.int .i64 0,.int .i64 0,.int .i64 0] _ (fun w' h=>(Oa.out w' h).box) underlying31 rfl Bj);refine ah 37 (.agg #[.int .i64 x.k,.int .i64 x.l,.int .i64 x.m,.int .i64 x.u,.int .i64 x.g,.int .i64 x.p,.int .i64 x.e,.int .i64 x.t,.int .i64 x.c,.int .i64 s,.int .i64 0,.int .i64 0,.int .i64 0,.int .i64 0,.int .i64 0,.int .i64 0,.int .i64 0,.int .i64 0,.int .i64 0,.int .i64 0,.int .i64 0,.int .i64 0,.int .i64 0,.int .i64 0]) rfl hH ?_;refine aG 38 rfl fun K hK=>?_;have Y8:=ae (Below (w.heap.size+1) W2 (W2.drew.setRow (w.heap.size+1) #[.int .i64 x.k,.int .i64 x.l,.int .i64 x.m,.int .i64 x.u,.int .i64 x.g,.int .i64 x.p,.int .i64 x.e,.int .i64 x.t,.int .i64 x.c,.int .i64 s,.int .i64 0,.int .i64 0,.int .i64 0,.int .i64 0,.int .i64 0,.int .i64 0,.int .i64 0,.int .i64 0,.int .i64 0,.int .i64 0,.int .i64 0,.int .i64 0,.int .i64 0,.int .i64 0])) (below_setRow (ak.drew) aj _);refine wp_store_row 33 _ _ rfl (w.heap.size+1) #[.int .i64 x.k,.int .i64 x.l,.int .i64 x.m,.int .i64 x.u,.int .i64 x.g,.int .i64 x.p,.int .i64 x.e,.int .i64 x.t,.int .i64 x.c,.int .i64 s,.int .i64 0,.int .i64 0,.int .i64 0,.int .i64 0,.int .i64 0,.int .i64 0,.int .i64 0,.int .i64 0,.int .i64 0,.int .i64 0,.int .i64 0,.int .i64 0,.int .i64 0,.int .i64 0] rfl rfl 33 #[.int .i64 0,.int .i64 0,.int .i64 0,.int .i64 0,.int .i64 0,.int .i64 0,.int .i64 0,.int .i64 0,.int .i64 0,.int .i64 0,.int .i64 0,.int .i64 0,.int .i64 0,.int .i64 0,.int .i64 0,.int .i64 0,.int .i64 0,.int .i64 0,.int .i64 0,.int .i64 0,.int .i64 0,.int .i64 0,.int .i64 0,.int .i64 0] kI.out iC rfl (by kernel_rfl) (hK.out _ _ Y8.out (fun hH2=>?_));clear hK K hH2;simp only[Act.put];refine aV ?_;have KB:=ae (af (W2.drew.setRow (w.heap.size+1) #[.int .i64 x.k,.int .i64 x.l,.int .i64 x.m,.int .i64 x.u,.int .i64 x.g,.int .i64 x.p,.int .i64 x.e,.int .i64 x.t,.int .i64 x.c,.int .i64 s,.int .i64 0,.int .i64 0,.int .i64 0,.int .i64 0,.int .i64 0,.int .i64 0,.int .i64 0,.int .i64 0,.int .i64 0,.int .i64 0,.int .i64 0,.int .i64 0,.int .i64 0,.int .i64 0]) (w.heap.size+1) #[.int .i64 x.k,.int .i64 x.l,.int .i64 x.m,.int .i64 x.u,.int .i64 x.g,.int .i64 x.p,.int .i64 x.e,.int .i64 x.t,.int .i64 x.c,.int .i64 s,.int .i64 0,.int .i64 0,.int .i64 0,.int .i64 0,.int .i64 0,.int .i64 0,.int .i64 0,.int .i64 0,.int .i64 0,.int .i64 0,.int .i64 0,.int .i64 0,.int .i64 0,.int .i64 0] 33) (af.row (w:=W2.drew) kI.out _);have BE:=ae (Below w.heap.size w (W2.drew.setRow (w.heap.size+1) #[.int .i64 x.k,.int .i64 x.l,.int .i64 x.m,.int .i64 x.u,.int .i64 x.g,.int .i64 x.p,.int .i64 x.e,.int .i64 x.t,.int .i64 x.c,.int .i64 s,.int .i64 0,.int .i64 0,.int .i64 0,.int .i64 0,.int .i64 0,.int .i64 0,.int .i64 0,.int .i64 0,.int .i64 0,.int .i64 0,.int .i64 0,.int .i64 0,.int .i64 0,.int .i64 0])) (below_setRow (HB.out.drew) (by omega) _);go_wp2;refine bodyPost_ret (v:=.agg #[.int .i64 x.k,.int .i64 x.l,.int .i64 x.m,.int .i64 x.u,.int .i64 x.g,.int .i64 x.p,.int .i64 x.e,.int .i64 x.t,.int .i64 x.c,.int .i64 s,.int .i64 0,.int .i64 0,.int .i64 0,.int .i64 0,.int .i64 0,.int .i64 0,.int .i64 0,.int .i64 0,.int .i64 0,.int .i64 0,.int .i64 0,.int .i64 0,.int .i64 0,.int .i64 0]) ?_ rfl ?_
 ·exact results_cell_row rfl _ _ (w.heap.size+1) 33 #[.int .i64 x.k,.int .i64 x.l,.int .i64 x.m,.int .i64 x.u,.int .i64 x.g,.int .i64 x.p,.int .i64 x.e,.int .i64 x.t,.int .i64 x.c,.int .i64 s,.int .i64 0,.int .i64 0,.int .i64 0,.int .i64 0,.int .i64 0,.int .i64 0,.int .i64 0,.int .i64 0,.int .i64 0,.int .i64 0,.int .i64 0,.int .i64 0,.int .i64 0,.int .i64 0] (0,0) _ rfl KB.out underlying33 rfl iC
 ·exact⟨rfl,BE.out⟩
theorem Ll(x:mP)(a:Option Addr)(n c:Nat)(s:Int)(w:World):
 Calls prog 11 #[.agg #[.int .i64 x.k,.int .i64 x.l,.int .i64 x.m,.int .i64 x.u,.int .i64 x.g,.int .i64 x.p,.int .i64 x.e,.int .i64 x.t,.int .i64 x.c,.slice a n c],.agg #[.int .i64 s,.int .i64 0,.int .i64 0,.int .i64 0,.int .i64 0,.int .i64 0,.int .i64 0,.int .i64 0,.int .i64 0,.int .i64 0,.int .i64 0,.int .i64 0,.int .i64 0,.int .i64 0,.int .i64 0]] w fun e w'=>e=.returned (.agg (an (l6 x s)))∧Below w.heap.size w w':=by
 obtain⟨W3,hW3⟩:∃W3,W3=((w.alloc (.cells #[.int .i64 x.k,.int .i64 x.l,.int .i64 x.m,.int .i64 x.u,.int .i64 x.g,.int .i64 x.p,.int .i64 x.e,.int .i64 x.t,.int .i64 x.c,.slice a n c] 36)).alloc (.cells #[.int .i64 s,.int .i64 0,.int .i64 0,.int .i64 0,.int .i64 0,.int .i64 0,.int .i64 0,.int .i64 0,.int .i64 0,.int .i64 0,.int .i64 0,.int .i64 0,.int .i64 0,.int .i64 0,.int .i64 0] 31)).alloc (.cells #[.int .i64 0,.int .i64 0,.int .i64 0,.int .i64 0,.int .i64 0,.int .i64 0,.int .i64 0,.int .i64 0,.int .i64 0,.int .i64 0,.int .i64 0,.int .i64 0,.int .i64 0,.int .i64 0,.int .i64 0,.int .i64 0,.int .i64 0,.int .i64 0,.int .i64 0,.int .i64 0,.int .i64 0,.int .i64 0,.int .i64 0,.int .i64 0] 33):=⟨_,rfl⟩;have HB:=ae (Below w.heap.size w W3) (by rw[hW3];exact((ak.alloc aj _).alloc (by simp) _).alloc (by simp;omega) _);have k1:af W3 w.heap.size #[.int .i64 x.k,.int .i64 x.l,.int .i64 x.m,.int .i64 x.u,.int .i64 x.g,.int .i64 x.p,.int .i64 x.e,.int .i64 x.t,.int .i64 x.c,.slice a n c] 36:=by rw[hW3];exact((af.new w #[.int .i64 x.k,.int .i64 x.l,.int .i64 x.m,.int .i64 x.u,.int .i64 x.g,.int .i64 x.p,.int .i64 x.e,.int .i64 x.t,.int .i64 x.c,.slice a n c] 36).alloc _).alloc _
 have k2:af W3 (w.heap.size+1) #[.int .i64 s,.int .i64 0,.int .i64 0,.int .i64 0,.int .i64 0,.int .i64 0,.int .i64 0,.int .i64 0,.int .i64 0,.int .i64 0,.int .i64 0,.int .i64 0,.int .i64 0,.int .i64 0,.int .i64 0] 31:=by rw[hW3];simpa using((af.new (w.alloc (.cells #[.int .i64 x.k,.int .i64 x.l,.int .i64 x.m,.int .i64 x.u,.int .i64 x.g,.int .i64 x.p,.int .i64 x.e,.int .i64 x.t,.int .i64 x.c,.slice a n c] 36)) #[.int .i64 s,.int .i64 0,.int .i64 0,.int .i64 0,.int .i64 0,.int .i64 0,.int .i64 0,.int .i64 0,.int .i64 0,.int .i64 0,.int .i64 0,.int .i64 0,.int .i64 0,.int .i64 0,.int .i64 0] 31).alloc _)
 have k3:af W3 (w.heap.size+2) #[.int .i64 0,.int .i64 0,.int .i64 0,.int .i64 0,.int .i64 0,.int .i64 0,.int .i64 0,.int .i64 0,.int .i64 0,.int .i64 0,.int .i64 0,.int .i64 0,.int .i64 0,.int .i64 0,.int .i64 0,.int .i64 0,.int .i64 0,.int .i64 0,.int .i64 0,.int .i64 0,.int .i64 0,.int .i64 0,.int .i64 0,.int .i64 0] 33:=by rw[hW3];simpa using(af.new ((w.alloc (.cells #[.int .i64 x.k,.int .i64 x.l,.int .i64 x.m,.int .i64 x.u,.int .i64 x.g,.int .i64 x.p,.int .i64 x.e,.int .i64 x.t,.int .i64 x.c,.slice a n c] 36)).alloc (.cells #[.int .i64 s,.int .i64 0,.int .i64 0,.int .i64 0,.int .i64 0,.int .i64 0,.int .i64 0,.int .i64 0,.int .i64 0,.int .i64 0,.int .i64 0,.int .i64 0,.int .i64 0,.int .i64 0,.int .i64 0] 31)) #[.int .i64 0,.int .i64 0,.int .i64 0,.int .i64 0,.int .i64 0,.int .i64 0,.int .i64 0,.int .i64 0,.int .i64 0,.int .i64 0,.int .i64 0,.int .i64 0,.int .i64 0,.int .i64 0,.int .i64 0,.int .i64 0,.int .i64 0,.int .i64 0,.int .i64 0,.int .i64 0,.int .i64 0,.int .i64 0,.int .i64 0,.int .i64 0] 33)
 have HK2:=aa k2;have HK3:=aa k3;have HW3:=aa hW3;obtain⟨cs,hcs⟩:∃cs,cs=an (l6 x s):=⟨_,rfl⟩;have HI:=ae ((prog.info? 33).map (·.size)=some cs.size) (by rw[hcs,Bi];exact iC);have HZ:=ae (cs.size=24) (by rw[hcs,Bi]);have HC:=ae (cs.all (·.oneCell')=true) (by rw[hcs];exact Lg _);have HCS:=aa hcs;rw[←hcs];have c0:W3.cell? ⟨w.heap.size,0,none⟩=some (.int .i64 x.k):=(k1.cell 0).trans rfl;have c1:W3.cell? ⟨w.heap.size,1,none⟩=some (.int .i64 x.l):=(k1.cell 1).trans rfl;have c2:W3.cell? ⟨w.heap.size,2,none⟩=some (.int .i64 x.m):=(k1.cell 2).trans rfl;have c3:W3.cell? ⟨w.heap.size,3,none⟩=some (.int .i64 x.u):=(k1.cell 3).trans rfl;have c4:W3.cell? ⟨w.heap.size,4,none⟩=some (.int .i64 x.g):=(k1.cell 4).trans rfl;have c5:W3.cell? ⟨w.heap.size,5,none⟩=some (.int .i64 x.p):=(k1.cell 5).trans rfl;have c6:W3.cell? ⟨w.heap.size,6,none⟩=some (.int .i64 x.e):=(k1.cell 6).trans rfl;have c7:W3.cell? ⟨w.heap.size,7,none⟩=some (.int .i64 x.t):=(k1.cell 7).trans rfl;have c8:W3.cell? ⟨w.heap.size,8,none⟩=some (.int .i64 x.c):=(k1.cell 8).trans rfl;clear hcs k1 k2 k3 hW3;go_enter func11,ntmps11;go_upto_region 1 with fail;rw[←HW3.out];go_wp2_with (first|(refine wpList_load_row rfl 31 _ rfl (w.heap.size+1) rfl 31 #[.int .i64 s,.int .i64 0,.int .i64 0,.int .i64 0,.int .i64 0,.int .i64 0,.int .i64 0,.int .i64 0,.int .i64 0,.int .i64 0,.int .i64 0,.int .i64 0,.int .i64 0,.int .i64 0,.int .i64 0] (0,0) _ HK2.out underlying31 rfl Bj ?_)|(refine Lf w.heap.size w rfl 33 _ _ rfl (w.heap.size+2) cs rfl (by rw[HCS.out];rfl) 33 #[.int .i64 0,.int .i64 0,.int .i64 0,.int .i64 0,.int .i64 0,.int .i64 0,.int .i64 0,.int .i64 0,.int .i64 0,.int .i64 0,.int .i64 0,.int .i64 0,.int .i64 0,.int .i64 0,.int .i64 0,.int .i64 0,.int .i64 0,.int .i64 0,.int .i64 0,.int .i64 0,.int .i64 0,.int .i64 0,.int .i64 0,.int .i64 0] HK3.out HI.out (by rw[HZ.out];rfl) HC.out HB.out (by omega) ?_;intro w4 k4 b4;have K4:=aa k4;have B4:=aa b4;clear k4 b4)|fail);refine bodyPost_ret (v:=.agg cs) ?_ rfl ⟨rfl,B4.out⟩;exact results_cell_row rfl _ _ (w.heap.size+2) 33 cs (0,0) _ rfl K4.out underlying33 rfl HI.out
def p8:Array Value:=#[.int .i64 0,.int .i64 0,.int .i64 0,.int .i64 0,.int .i64 0,.int .i64 0,.int .i64 0,.int .i64 0,.int .i64 0,.slice none 0 0,.int .i64 2,.int .i64 2,.int .i64 493,.int .i64 0,.int .i64 0,.int .i64 1,.int .i64 1,.int .i64 1,.int .i64 1,.slice none 0 0]
theorem Lm(w:World):Calls prog 12 #[] w fun e w'=>∃B,e=.returned (.agg #[.int .i64 1,.slice (some ⟨B,0,none⟩) 2 2])∧af w' B p8 36∧w.heap.size≤B∧Below w.heap.size w w':=by
 have KQ:=ae (∀o2 o3,af (((w.alloc (.cells #[.int .i64 1,.slice (some ⟨w.heap.size+1+1,0,none⟩) 2 2] 39)).alloc o2).alloc o3) w.heap.size #[.int .i64 1,.slice (some ⟨w.heap.size+1+1,0,none⟩) 2 2] 39) (fun o2 o3=>((af.new _ _ _).alloc _).alloc _);go_enter func12,ntmps12;go_wp2;refine bodyPost_ret (v:=.agg #[.int .i64 1,.slice (some ⟨w.heap.size+1+1,0,none⟩) 2 2]) ?_ rfl ⟨w.heap.size+1+1,rfl,?_,by omega,?_⟩
 ·exact results_cell_row rfl _ _ w.heap.size 39 #[.int .i64 1,.slice (some ⟨w.heap.size+1+1,0,none⟩) 2 2] (0,0) _ rfl (KQ.out _ _) underlying39 rfl (by kernel_rfl)
 ·have h:=af.new ((w.alloc (.cells #[.int .i64 1,.slice (some ⟨w.heap.size+1+1,0,none⟩) 2 2] 39)).alloc (.cells #[.int .i64 2,.int .i64 2,.int .i64 493,.int .i64 0,.int .i64 0,.int .i64 1,.int .i64 1,.int .i64 1,.int .i64 1,.slice none 0 0] 36)) p8 36;simp only[World.size_alloc] at h;exact h
 ·exact((ak.alloc aj _).alloc (by simp) _).alloc (by simp;omega) _
theorem Bk(w:World):Calls prog 23 #[] w fun e w'=>∃B,e=.returned (.agg #[.int .i64 1,.slice (some ⟨B,0,none⟩) 2 2])∧af w' B p8 36∧w.heap.size≤B∧Below w.heap.size w w':=by
 have KQ:=ae (∀o2 o3,af (((w.alloc (.cells #[.int .i64 1,.slice (some ⟨w.heap.size+1+1,0,none⟩) 2 2] 39)).alloc o2).alloc o3) w.heap.size #[.int .i64 1,.slice (some ⟨w.heap.size+1+1,0,none⟩) 2 2] 39) (fun o2 o3=>((af.new _ _ _).alloc _).alloc _);go_enter func23,ntmps23;go_wp2;refine bodyPost_ret (v:=.agg #[.int .i64 1,.slice (some ⟨w.heap.size+1+1,0,none⟩) 2 2]) ?_ rfl ⟨w.heap.size+1+1,rfl,?_,by omega,?_⟩
 ·exact results_cell_row rfl _ _ w.heap.size 39 #[.int .i64 1,.slice (some ⟨w.heap.size+1+1,0,none⟩) 2 2] (0,0) _ rfl (KQ.out _ _) underlying39 rfl (by kernel_rfl)
 ·have h:=af.new ((w.alloc (.cells #[.int .i64 1,.slice (some ⟨w.heap.size+1+1,0,none⟩) 2 2] 39)).alloc (.cells #[.int .i64 2,.int .i64 2,.int .i64 493,.int .i64 0,.int .i64 0,.int .i64 1,.int .i64 1,.int .i64 1,.int .i64 1,.slice none 0 0] 36)) p8 36;simp only[World.size_alloc] at h;exact h
 ·exact((ak.alloc aj _).alloc (by simp) _).alloc (by simp;omega) _
theorem Bl{w:World}{b:Nat}(h:af w b p8 36):w.rangeAt b 10 ([.int .i64 2,.int .i64 2,.int .i64 493,.int .i64 0,.int .i64 0,.int .i64 1,.int .i64 1,.int .i64 1,.int .i64 1,.slice none 0 0]:List Value):=by
 intro j v hv;rw[h.cell (10+j)];have hj:j<10:=by
  rcases Nat.lt_or_ge j 10 with h1|h1
  ·exact h1
  ·rw[List.getElem?_eq_none (by simp;omega)] at hv;cases hv
 match j,hj with
 |0,_|1,_|2,_|3,_|4,_|5,_|6,_|7,_|8,_|9,_=>exact hv
theorem Lp{α:Type}(f:Nat→α)(i:Nat)(x y:α):aO (aO f i x) i y=aO f i y:=by funext k;unfold aO;split<;>rfl
theorem Lq(D:RD)(l R:Nat)(f:Nat→List Int)(ys:List Int)(hL:D.Ln=aO f l (replicate R 0))(hs:vi D.st=true):D.place l R false ys={D with Ln:=aO f l (replicate R 0++[jJ D.st]),P:=D.P++[(jJ D.st,ys)],st:=rY D.st}:=by
 have hN:dD (aO f l (replicate R 0) l) R (jJ D.st)=replicate R 0++[jJ D.st]:=by
  rw[bY];have:=AA (replicate R 0) (jJ D.st);rw[List.length_replicate] at this;exact this
 unfold RD.place RD.oz RD.fresh;rw[if_neg (by simp),if_pos hs];simp only[hL,hN,Lp]
theorem Lr(cs:List Int)(D0:RD)(a:Nat)(h0:D0.Ln 0=[])(hz:∀i,i<a→gO cs i=replicate 512 0)(hn:gO cs a≠replicate 512 0)(hs:vi D0.st=true):
 (range (a+1)).foldl (lq cs) D0={D0 with Ln:=aO D0.Ln 0 (replicate a 0++[jJ D0.st]),P:=D0.P++[(jJ D0.st,gO cs a)],st:=rY D0.st}:=by
 rw[List.range_succ,List.foldl_append,JG cs D0 a h0 hz];simp only[List.foldl_cons,List.foldl_nil];unfold lq;rw[decide_eq_false hn];exact Lq {D0 with Ln:=aO D0.Ln 0 (replicate a 0)} 0 a D0.Ln (gO cs a) rfl hs
structure One(D:RD)(a:Nat)(x0 x1 x2:Int)(Y0:List Int):Prop where
 sh:D.sh=false
 n0:D.Ln 0=replicate a 0++[x0]
 c0:a<12→D.Ln 1=[]∧D.Ln 2=[]∧D.P=[(x0,Y0)]
 c1:12≤a→a<140→D.Ln 1=[x1]∧D.Ln 2=[]∧∃w1,D.P=[(x0,Y0),(x1,eE w1)]∧w1=(range 128).map (fun k=>if k=a-12 then x0 else 0)
 c2:140≤a→D.Ln 1=replicate ((a-12)/128) 0++[x1]∧D.Ln 2=[x2]∧∃w1 w2,D.P=[(x0,Y0),(x1,eE w1),(x2,eE w2)]∧w1=(range 128).map (fun k=>if k=(a-140)%128 then x0 else 0)∧w2=(range 128).map (fun k=>if k=(a-140)/128 then x1 else 0)
def fW(bl ev lg:Int):Bool:=wi bl 64 2048&&wi ev 0 1000&&gu lg
theorem Lt(bl ev lg:Int)(w:World):
 Calls prog 17 #[.int .i64 bl,.int .i64 ev,.int .i64 lg] w fun e w'=>∃v,e=.returned v∧fB w' w.heap.size (fW bl ev lg) v 19∧Below w.heap.size w w':=by
 have H0:=aa (ai (Ck.fresh w 19 93) (show Below w.heap.size w (w.alloc (.cells #[.int .i64 19,.nilIface] 93)) from ak.alloc aj _));have HF:=ae (fW bl ev lg=(wi bl 64 2048&&wi ev 0 1000&&gu lg)) rfl;go_enter func17,ntmps17;go_wp2_with (go_at_call 45;fail);refine(nF w.heap.size (w.heap.size+1) _ 19 bl 64 2048 _ _ H0.out.1 (by omega) H0.out.1.lt).mono ?_;rintro e w1 ⟨rfl,hc,ht⟩;rw[Bool.true_and] at hc;have H1:=aa (ai hc (ht.under H0.out.2 aj H0.out.2.size));clear hc ht H0;go_wp2_with (go_at_call 45;fail);refine(nF w.heap.size (w.heap.size+1) _ 19 ev 0 1000 _ _ H1.out.1 (by omega) H1.out.1.lt).mono ?_;rintro e w2 ⟨rfl,hc,ht⟩;have H2:=aa (ai hc (ht.under H1.out.2 aj H1.out.2.size));clear hc ht H1;go_wp2_with (first|(go_at_call 47;refine(JO lg _).mono ?_;rintro e wi' ⟨rfl,hwi⟩;rw[←hwi];clear hwi wi')|(go_at_call 46;fail));refine(eB w.heap.size (w.heap.size+1) _ 19 _ (gu lg) _ H2.out.1 (by omega) H2.out.1.lt).mono ?_;rintro e w3 ⟨rfl,hc,ht⟩;have H3:=aa (ai hc (ht.under H2.out.2 aj H2.out.2.size));clear hc ht H2;obtain⟨v,hv,hf⟩:=H3.out.1.fault;have HG:=aa hf;clear hf;go_wp2;go_ret;exact⟨_,rfl,by rw[HF.out];exact HG.out.mono (Nat.le_succ _),H3.out.2⟩
def l7:mP:=⟨2,2,493,0,0,1,1,1,1⟩
def fm:List Int:=replicate 24 0++l6 l7 0
def ir:List Int:=((range 2).map fun k=>cZ (er fm k)).flatten
theorem nD:ir.length=256:=by kernel_rfl
theorem Bm:allRows fm 2=true:=by kernel_rfl
theorem Lu:kr fm 2=1:=by kernel_rfl
theorem Lv:((range (kr fm 2+1)).map fun k=>cZ (eK fm 2 k)).flatten=ir:=by kernel_rfl
def dj:List Int:=gO ir 0
theorem Lw:dj.length=512:=vk _ _
theorem Lx:dj≠replicate 512 0:=by
 intro e;have h:dj.getD 128 0=2:=by kernel_rfl
 rw[e,vH] at h;omega
theorem Ly(iv cv:Value):(lz iv cv (some [2]) ir 1).P=[(2,dj)]∧(lz iv cv (some [2]) ir 1).sh=false∧gj (lz iv cv (some [2]) ir 1).Ln 256 14=an (aD 256 aq 0 0):=by
 obtain⟨e0,e1,e2⟩:=oD (cnt:=1) (by omega);have h:=Lr ir (ij iv cv (some [2])) 0 rfl (fun i hi=>by omega) Lx rfl;have e:lz iv cv (some [2]) ir 1={ij iv cv (some [2]) with Ln:=aO (ij iv cv (some [2])).Ln 0 ([]++[2]),P:=[]++[(2,dj)],st:=some []}:=by
  unfold lz;rw[e0,e1,e2];exact h
 rw[e];refine⟨rfl,rfl,?_⟩;kernel_rfl
theorem Bo:(prog.info? 36).map (·.size)=some 10:=by kernel_rfl
theorem Lz(x y:Value)(w:World):(Instr.field 39 (.agg #[x,y]) 0).run prog w=.ok x w:=by kernel_rfl
theorem Bp(x y:Value)(w:World):(Instr.field 39 (.agg #[x,y]) 1).run prog w=.ok y w:=by kernel_rfl
theorem LA:prog.builtSlice 33 2 [(1,.agg (an (l6 l7 0)))]=some (an fm):=by kernel_rfl
theorem Bq:fm.length=48:=by kernel_rfl
theorem Br{w:World}{g:Nat}(h:af w g (an fm) 33):iY w (.slice (some ⟨g,0,none⟩) 2 2) 2 fm:=
 ⟨Bq,_,_,rfl,fun _=>⟨g,0,rfl,h.lt,fun i hi=>(h.cell (0+i)).trans (by rw[Nat.zero_add,qq _ _ (by rw[Bq];omega)])⟩,by omega,by unfold maxLen;omega⟩
theorem LB{w:World}{g:Nat}{C:Array Value}{t:TypeId}(h:af w g C t):w.rangeAt g 0 C.toList:=by
 intro j v hv;rw[h.cell (0+j),Nat.zero_add];simpa using hv
theorem LG(w:World):Calls prog 20 #[] w fun e w'=>∃v',e=.returned v'∧w'.ownsRow w.heap.size 5 1 v' ir.length (ir.map (Value.int .u8))∧Below w.heap.size w w':=by
 have hfs:=fun B=>Bp (.int .i64 1) (.slice (some ⟨B,0,none⟩) 2 2);go_enter func20,ntmps20;go_upto_region 2 with(first
  |(
   go_at_call 23
   refine(Bk w).mono ?_;rintro e w1 ⟨B,rfl,kB,hB,b1⟩;have K1:=aa kB;have B1:=aa b1;have HB:=aa hB;clear kB b1 hB)
  |(refine wpList_load_mid rfl 36 _ rfl B 10 rfl [.int .i64 2,.int .i64 2,.int .i64 493,.int .i64 0,.int .i64 0,.int .i64 1,.int .i64 1,.int .i64 1,.int .i64 1,.slice none 0 0] _ (Bl K1.out) underlying36 rfl Bo ?_)
  |fail)
 obtain⟨W2,hW2⟩:∃W2,W2=w1.alloc (.cells (sD l7 (.slice none 0 0)) 36):=⟨_,rfl⟩;have K2:=ae (af W2 w1.heap.size (sD l7 (.slice none 0 0)) 36) (by rw[hW2];exact af.new _ _ _);have B2:=ae (Below w.heap.size w W2) (by rw[hW2];exact B1.out.alloc B1.out.size _);rw[show(w1.alloc (.cells #[.int .i64 2,.int .i64 2,.int .i64 493,.int .i64 0,.int .i64 0,.int .i64 1,.int .i64 1,.int .i64 1,.int .i64 1,.slice none 0 0] 36))=W2 from hW2.symm];have nv:=aa (Lj l7 (.slice none 0 0) 0 w1.heap.size 0 W2 (LB K2.out));obtain⟨IC,TQ⟩:∃IC,IC=an (l6 l7 0):=⟨_,rfl⟩;have Rn:=ae (prog.builtSlice 33 2 [(1,.agg IC)]=some (an fm)) (by rw[TQ];exact LA);rw[←TQ] at nv;clear TQ hW2 hfs;go_wp2_with (first
  |(
   go_at_call 54
   refine nv.out.mono ?_;rintro e W3 ⟨rfl,b3⟩;have B3:=aa (B2.out.trans (b3.mono B2.out.size));clear b3)
  |(
   refine Go.Great.wpList_buildSliceTo rfl 41 33 2 _ rfl W3.heap.size rfl _ rfl underlying41 (an fm) (by simp only[List.map_toArray,List.map_cons,List.map_nil];exact Rn.out) ?_;have HR4:=aa (Br (af.new W3 (an fm) 33));have B4:=ae (Below w.heap.size w (W3.alloc (.cells (an fm) 33))) (B3.out.alloc B3.out.size _);generalize W3.alloc (.cells (an fm) 33)=W4 at HR4 B4⊢)
  |(
   go_at_call 53
   refine(Le _ 2 fm W4 HR4.out (by omega) (by omega) Bm).mono ?_;rintro e W5 ⟨v',rfl,o5,b5⟩;have O5:=aa (cH o5 B4.out.size);have B5:=aa (B4.out.trans (b5.mono B4.out.size));clear o5 b5)
  |fail)
 go_ret;exact⟨_,rfl,O5.out,B5.out⟩
theorem oQ(xs:List Int)(o:Nat)(ds:List Int)(h:o+ds.length≤xs.length)(i:Nat):(over xs o ds)[i]?=if o≤i∧i<o+ds.length then ds[i-o]? else xs[i]?:=by
 unfold over;by_cases h1:i<o
 ·rw[if_neg (by omega),List.append_assoc,List.getElem?_append_left (by rw[length_take];omega),List.getElem?_take,if_pos h1]
 ·by_cases h2:i<o+ds.length
  ·rw[if_pos ⟨by omega,h2⟩,List.append_assoc,List.getElem?_append_right (by rw[length_take];omega),length_take,Nat.min_eq_left (by omega),List.getElem?_append_left (by omega)]
  ·rw[if_neg (by omega),List.getElem?_append_right (by rw[List.length_append,length_take];omega),List.length_append,length_take,Nat.min_eq_left (by omega),List.getElem?_drop];congr 1;omega
theorem LI(xs:List Int)(o:Nat)(ds:List Int)(o2:Nat)(es:List Int)(h:o+ds.length≤xs.length)(h2:o2+es.length≤xs.length)(hd:o+ds.length≤o2∨o2+es.length≤o):over (over xs o ds) o2 es=over (over xs o2 es) o ds:=by
 refine List.ext_getElem? (fun i=>?_);rw[oQ _ _ _ (by rw[qt _ _ _ h];exact h2),oQ _ _ _ h,oQ _ _ _ (by rw[qt _ _ _ h2];exact h),oQ _ _ _ h2];by_cases h3:o2≤i∧i<o2+es.length
 ·rw[if_pos h3,if_neg (by omega),if_pos h3]
 ·rw[if_neg h3];by_cases h4:o≤i∧i<o+ds.length
  ·rw[if_pos h4,if_pos h4]
  ·rw[if_neg h4,if_neg h4,if_neg h3]
def gR(zs:List Int)(p:Int×List Int):List Int:=over zs (p.1.toNat*512) p.2
def eH(zs:List Int)(ps:List (Int×List Int)):List Int:=ps.foldl gR zs
theorem oS(zs:List Int)(p:Int×List Int)(ps:List (Int×List Int)):eH zs (p::ps)=eH (gR zs p) ps:=by
 unfold eH;rw[List.foldl_cons]
def gy(n:Nat)(p:Int×List Int):Prop:=0≤p.1∧p.1<(n:Int)∧p.2.length=512∧∀z∈p.2,0≤z∧z<256
theorem gy.fit{n:Nat}{p:Int×List Int}(h:gy n p){zs:List Int}(hz:zs.length=n*512):p.1.toNat*512+p.2.length≤zs.length:=by
 obtain⟨h1,h2,h3,_⟩:=h;rw[h3,hz];omega
theorem vN{n:Nat}{p:Int×List Int}(h:gy n p){zs:List Int}(hz:zs.length=n*512):(gR zs p).length=n*512:=by
 unfold gR;rw[qt _ _ _ (h.fit hz),hz]
theorem qc{n:Nat}:∀(ps:List (Int×List Int)) (zs:List Int),(∀p∈ps,gy n p)→zs.length=n*512→(eH zs ps).length=n*512
 |[],zs,_,hz=>hz
 |p::ps,zs,h,hz=>by
  rw[oS];exact qc ps _ (fun q hq=>h q (mem_cons_of_mem _ hq)) (vN (h p (mem_cons_self ..)) hz)
theorem LJ{n:Nat}{p q:Int×List Int}(h:gy n p)(k:gy n q)(hne:p.1≠q.1){zs:List Int}(hz:zs.length=n*512):gR (gR zs p) q=gR (gR zs q) p:=by
 unfold gR;have h1:=h.fit hz;have h2:=k.fit hz;refine LI _ _ _ _ _ h1 h2 ?_;obtain⟨a1,a2,a3,_⟩:=h;obtain⟨b1,b2,b3,_⟩:=k;rw[a3,b3];clear h1 h2 a3 b3 hz;omega
theorem Bs{n:Nat}{p:Int×List Int}(h:gy n p):∀(ps:List (Int×List Int)) (zs:List Int),(∀q∈ps,gy n q∧q.1≠p.1)→zs.length=n*512→eH (gR zs p) ps=gR (eH zs ps) p
 |[],zs,_,_=>rfl
 |q::ps,zs,k,hz=>by
  have hq:=k q (mem_cons_self ..);have e1:gR (gR zs p) q=gR (gR zs q) p:=LJ h hq.1 (fun e=>hq.2 e.symm) hz;have e2:=Bs h ps (gR zs q) (fun r hr=>k r (mem_cons_of_mem _ hr)) (vN hq.1 hz);rw[oS,oS,e1];exact e2
theorem Bu{n:Nat}:∀(A B:List (Int×List Int)) (zs:List Int),(∀p∈A,gy n p)→(∀q∈B,gy n q∧∀p∈A,q.1≠p.1)→zs.length=n*512→eH (eH zs A) B=eH (eH zs B) A
 |[],B,zs,_,_,_=>rfl
 |p::A,B,zs,h,k,hz=>by
  have hp:=h p (mem_cons_self ..);have e1:=Bs hp B zs (fun q hq=>⟨(k q hq).1,(k q hq).2 p (mem_cons_self ..)⟩) hz;have e2:=Bu A B (gR zs p) (fun q hq=>h q (mem_cons_of_mem _ hq)) (fun q hq=>⟨(k q hq).1,fun r hr=>(k q hq).2 r (mem_cons_of_mem _ hr)⟩) (vN hp hz);rw[oS,oS, ←e1];exact e2
theorem qf(zs:List Int)(A B:List (Int×List Int)):eH zs (A++B)=eH (eH zs A) B:=by
 unfold eH;rw[List.foldl_append]
theorem LK(g L c q:Nat)(w:World)(hk:q*512+512≤L)(hc:L≤c)(hz:L≤1048576)(hc2:c≤1048576):
 Calls prog 63 #[.slice (some ⟨g,0,none⟩) L c,.int .i64 (q:Int)] w fun e w'=>e=.returned (.slice (some ⟨g,q*512,none⟩) 512 (c-q*512))∧w=w':=by
 obtain⟨A,hA⟩:∃A:Nat,A=q*512:=⟨_,rfl⟩;have hA1:(q:Int)*512=(A:Int):=by omega
 obtain⟨B,hB⟩:∃B:Nat,B=A+512:=⟨_,rfl⟩;have hA2:((q:Int)+1)*512=(B:Int):=by omega
 have X8:B≤L:=by omega
 have HP:=aa hA;have hB3:(A:Int)≤(B:Int):=by omega
 have hB4:(B:Int)≤(c:Int):=by omega
 have UO:B-A=512:=by omega
 have hq:(q:Int)<4096:=by omega
 rw[←hA];clear hA hB;go_enter func63,ntmps63;go_wp2;go_ret;refine⟨?_,rfl⟩;first|rfl|simp
theorem Bv{w w':World}{r:Option Nat}(h:w.grownBy w' r)(o:Obj):w.grownBy (w'.alloc o) r:=
 ⟨h.os,h.tape,h.output,by rw[World.size_alloc];exact Nat.le_succ_of_le h.size,fun k hk hr=>(Below.heap_alloc w' o k (Nat.lt_of_lt_of_le hk h.size)).trans (h.block k hk hr)⟩
theorem LM{w w1:World}{g:Nat}(h:w.grownBy w1 (some g))(C:Array Value):w.grownBy (w1.setRow g C) (some g):=
 ⟨h.os,h.tape,h.output,by simpa using h.size,fun k hk hr=>(setRow_other w1 g k C (fun e=>hr (by rw[e]))).trans (h.block k hk hr)⟩
theorem LN{w w1:World}{r:Option Nat}(h:w.grownBy w1 r):w.grownBy w1.drew r:=⟨h.os,h.tape,h.output,h.size,h.block⟩
theorem sE:(prog.info? 55).map (fun i=>(i.zero,i.size,i.bytes))=some (some (.agg #[.int .i64 0,.slice none 0 0]),2,32):=by kernel_rfl
end
end Go.Proofs.YtpplnhkpcpieoaaGreatDoor
