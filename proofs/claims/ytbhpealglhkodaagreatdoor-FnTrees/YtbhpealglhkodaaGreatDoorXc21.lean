/- The numbers of a tree while it is renewed: set -/
import Derived.Test.YtbhpealglhkodaaGreatDoorXc20
namespace Go.Proofs.YtbhpealglhkodaaGreatDoor
set_option linter.all false
set_option maxRecDepth 100000
set_option maxHeartbeats 16000000
section
open Go.RowKit
structure NumF(w w':World)(b:Nat)(sv:Value):Prop where
 os:w'.os=w.os
 tape:w'.tape=w.tape
 output:w'.output=w.output
 size:w.heap.size≤w'.heap.size
 block:∀k,k<w.heap.size→k≠b→sv.ownBlock≠some k→w'.heap[k]?=w.heap[k]?
theorem NumF.of_below{w w':World}{b:Nat}{sv:Value}(h:Below w.heap.size w w'):NumF w w' b sv:=⟨h.os,h.tape,h.output,h.size,fun k hk _ _=>h.block k hk⟩
theorem NumF.grown{w A B:World}{b:Nat}{sv:Value}{row:Option Nat}(h:NumF w A b sv)(hg:A.grownBy B row)(hr:∀k,row=some k→k<w.heap.size→k=b∨sv.ownBlock=some k):NumF w B b sv:=
 ⟨hg.os.trans h.os,hg.tape.trans h.tape,hg.output.trans h.output,Nat.le_trans h.size hg.size,fun k hk h1 h2=>(hg.block k (Nat.lt_of_lt_of_le hk h.size) (fun e=>(hr k e.symm hk).elim h1 h2)).trans (h.block k hk h1 h2)⟩
def setN(L:List Int)(r:Nat)(x:Int):List Int:=(L++List.replicate (r+1-L.length) 0).set r x
structure SetI(w:World)(b i:Nat)(C:Array Value)(t:TypeId)(base:Nat)(sv:Value)(L:List Int)(l r j:Nat)(sw:Value)(W:World):Prop where
 le:j≤r+1-L.length
 box:Blk W b (C.setIfInBounds i sw) t
 row:W.ownsRow base 3 1 sw (L.length+j) ((L++List.replicate j 0).map (Value.int .i64))
 own:sw.ownBlock=sv.ownBlock∨∃g,sw.ownBlock=some g∧w.heap.size≤g
 spot:Blk W w.heap.size #[.int .i64 (l:Int),.int .i64 (r:Int)] 123
 old:NumF w W b sv
def lenM(b i:Nat)(wr:World):Nat:=match wr.cell? ⟨b,i,none⟩ with|some (.slice _ n _)=>n|_=>0
theorem set_self{C:Array Value}{i:Nat}{v:Value}(h:C[i]?=some v):C.setIfInBounds i v=C:=by
 apply Array.ext_getElem?;intro k;rw[Array.getElem?_setIfInBounds];split
 ·rename_i e
  subst e;split
  ·exact h.symm
  ·rename_i hn
   rw[Array.getElem?_eq_none (by omega)]
 ·rfl
theorem set_cell{W:World}{b i:Nat}{C:Array Value}{t:TypeId}{v:Value}(h:Blk W b (C.setIfInBounds i v) t)(hi:i<C.size):W.cell? ⟨b,i,none⟩=some v:=by
 refine(h.cell i).trans ?_;simp[hi]
theorem set_any(b off l r i:Nat)(C:Array Value)(t:TypeId)(sv:Value)(L:List Int)(x:Int)(base:Nat)(w:World)(hl:l<3)(hr:r≤100000)(hLl:L.length≤100001)(hi:i=off+l)(hk:Blk w b C t)(hc:C[i]?=some sv)(ht:t≠3)
 (ho:w.ownsRow base 3 1 sv L.length (L.map (Value.int .i64))) (hbs:base≤w.heap.size):
 Calls Tryz.prog 85 #[.pointer (some ⟨b,off,none⟩),spotV l r,.int .i64 x] w fun e w'=>e=.returned (.tuple #[])∧∃sw,Blk w' b (C.setIfInBounds i sw) t∧w'.ownsRow base 3 1 sw (setN L r x).length ((setN L r x).map (Value.int .i64))∧(sw.ownBlock=sv.ownBlock∨∃g,sw.ownBlock=some g∧w.heap.size≤g)∧NumF w w' b sv:=by
 subst hi;obtain⟨i0,hi,hz0,hz1,hz2⟩:=info_parts infoI64;have HT:=hide (And.intro hi (And.intro hz0 (And.intro hz1 hz2)));clear hi hz0 hz1 hz2;have hiC:off+l<C.size:=(Array.getElem?_eq_some_iff.1 hc).1;have hbw:=hk.lt;have I0:=hide (show SetI w b (off+l) C t base sv L l r 0 sv (w.alloc (.cells #[.int .i64 (l:Int),.int .i64 (r:Int)] 123)) from
  ⟨Nat.zero_le _,by rw[set_self hc];exact hk.alloc _,by simpa using ho.alloc _,.inl rfl,Blk.new w _ _,NumF.of_below ((Below.refl _ _).alloc (Nat.le_refl _) _)⟩)
 have HT2:=hide ht;have hl3:(l:Int)<3:=by omega
 clear hk hc ho ht;go_enter Tryz.func85,Tryz.ntmps85;go_upto_region 1 with fail;go_loopw [6] (fun _ wr=>∃j sw,SetI w b (off+l) C t base sv L l r j sw wr) (fun _ wr=>r+1-lenM b (off+l) wr)
 case atStart=>exact⟨0,sv,I0.out⟩
 case round=>
  obtain⟨j,sw,hI⟩:=hrel;clear I0;obtain⟨n,hn⟩:∃n,n=L.length+j:=⟨_,rfl⟩;have hrow:=hI.row;rw[←hn] at hrow;obtain⟨sa,sc,rfl⟩:=own_shapeT hrow;have hle:=hI.le;have HS:=hide (show wr.cell? ⟨w.heap.size,0,none⟩=some (.int .i64 (l:Int))∧wr.cell? ⟨w.heap.size,1,none⟩=some (.int .i64 (r:Int))∧wr.cell? ⟨b,off+l,none⟩=some (.slice sa n sc) from⟨(hI.spot.cell 0).trans rfl,(hI.spot.cell 1).trans rfl,set_cell hI.box hiC⟩);have HI:=hide (And.intro hI (And.intro hrow hn));have hn2:n≤100001:=by omega
  have hm0:r+1-lenM b (off+l) wr=r+1-n:=by unfold lenM;rw[HS.out.2.2]
  have HM0:=hide hm0;clear hI hrow hn hm0;go_upto_region 1 with fail;refine wp_region_noPanic ?_;refine wp_region_held_drew (S:=fun w'=>w'.cell? ⟨w.heap.size,0,none⟩=some (.int .i64 (l:Int))∧w'.cell? ⟨w.heap.size,1,none⟩=some (.int .i64 (r:Int))∧w'.cell? ⟨b,off+l,none⟩=some (.slice sa n sc)) (by kernel_rfl) HS.out (fun hH=>?_);refine wpAnyH_take (i:=0) (oi:=_) (v:=.pointer (some ⟨b,off,none⟩)) rfl (by kernel_rfl) (by kernel_rfl) (by kernel_rfl) (fun _ _ _ h=>h) (Or.inl ⟨by rfl,fun w' hw'=>by obtain⟨d0,d1,d2⟩:=hw';go_simp⟩) hH ?_;try simp only[Act.put,List.getElem_toArray,List.getElem_cons_zero,List.getElem_cons_succ,List.setIfInBounds_toArray,List.set_cons_zero,List.set_cons_succ]
  refine wpAnyH_take (i:=1) (oi:=_) (v:=.pointer (some ⟨w.heap.size,0,none⟩)) rfl (by kernel_rfl) (by kernel_rfl) (by kernel_rfl) (fun _ _ _ h=>h) (Or.inl ⟨by rfl,fun w' hw'=>by obtain⟨d0,d1,d2⟩:=hw';go_simp⟩) hH ?_;try simp only[Act.put,List.getElem_toArray,List.getElem_cons_zero,List.getElem_cons_succ,List.setIfInBounds_toArray,List.set_cons_zero,List.set_cons_succ]
  refine wpAnyH_take (i:=2) (oi:=_) (v:=.int .i64 (l:Int)) rfl (by kernel_rfl) (by kernel_rfl) (by kernel_rfl) (fun _ _ _ h=>h) (Or.inl ⟨by rfl,fun w' hw'=>by obtain⟨d0,d1,d2⟩:=hw';go_simp⟩) hH ?_;try simp only[Act.put,List.getElem_toArray,List.getElem_cons_zero,List.getElem_cons_succ,List.setIfInBounds_toArray,List.set_cons_zero,List.set_cons_succ]
  refine wpAnyH_take (i:=3) (oi:=_) (v:=.pointer (some ⟨b,off,none⟩)) rfl (by kernel_rfl) (by kernel_rfl) (by kernel_rfl) (fun _ _ _ h=>h) (Or.inl ⟨by rfl,fun w' hw'=>by obtain⟨d0,d1,d2⟩:=hw';go_simp⟩) hH ?_;try simp only[Act.put,List.getElem_toArray,List.getElem_cons_zero,List.getElem_cons_succ,List.setIfInBounds_toArray,List.set_cons_zero,List.set_cons_succ]
  refine wpAnyH_take (i:=4) (oi:=_) (v:=.pointer (some ⟨b,off+l,none⟩)) rfl (by kernel_rfl) (by kernel_rfl) (by kernel_rfl) (fun _ _ _ h=>h) (Or.inl ⟨by rfl,fun w' hw'=>by obtain⟨d0,d1,d2⟩:=hw';go_simp⟩) hH ?_;try simp only[Act.put,List.getElem_toArray,List.getElem_cons_zero,List.getElem_cons_succ,List.setIfInBounds_toArray,List.set_cons_zero,List.set_cons_succ]
  refine wpAnyH_take (i:=5) (oi:=_) (v:=.slice sa n sc) rfl (by kernel_rfl) (by kernel_rfl) (by kernel_rfl) (fun _ _ _ h=>h) (Or.inl ⟨by rfl,fun w' hw'=>by obtain⟨d0,d1,d2⟩:=hw';go_simp⟩) hH ?_;try simp only[Act.put,List.getElem_toArray,List.getElem_cons_zero,List.getElem_cons_succ,List.setIfInBounds_toArray,List.set_cons_zero,List.set_cons_succ]
  refine wpAnyH_take (i:=6) (oi:=_) (v:=.int .i64 (n:Int)) rfl (by kernel_rfl) (by kernel_rfl) (by kernel_rfl) (fun _ _ _ h=>h) (Or.inl ⟨by rfl,fun w' hw'=>by obtain⟨d0,d1,d2⟩:=hw';go_simp⟩) hH ?_;try simp only[Act.put,List.getElem_toArray,List.getElem_cons_zero,List.getElem_cons_succ,List.setIfInBounds_toArray,List.set_cons_zero,List.set_cons_succ]
  refine wpAnyH_take (i:=7) (oi:=_) (v:=.pointer (some ⟨w.heap.size,1,none⟩)) rfl (by kernel_rfl) (by kernel_rfl) (by kernel_rfl) (fun _ _ _ h=>h) (Or.inl ⟨by rfl,fun w' hw'=>by obtain⟨d0,d1,d2⟩:=hw';go_simp⟩) hH ?_;try simp only[Act.put,List.getElem_toArray,List.getElem_cons_zero,List.getElem_cons_succ,List.setIfInBounds_toArray,List.set_cons_zero,List.set_cons_succ]
  refine wpAnyH_take (i:=8) (oi:=_) (v:=.int .i64 (r:Int)) rfl (by kernel_rfl) (by kernel_rfl) (by kernel_rfl) (fun _ _ _ h=>h) (Or.inl ⟨by rfl,fun w' hw'=>by obtain⟨d0,d1,d2⟩:=hw';go_simp⟩) hH ?_;try simp only[Act.put,List.getElem_toArray,List.getElem_cons_zero,List.getElem_cons_succ,List.setIfInBounds_toArray,List.set_cons_zero,List.set_cons_succ]
  refine wpAnyH_take (i:=9) (oi:=_) (v:=.bool (decide ((n:Int)≤(r:Int)))) rfl (by kernel_rfl) (by kernel_rfl) (by kernel_rfl) (fun _ _ _ h=>h) (Or.inl ⟨by rfl,fun w' hw'=>by obtain⟨d0,d1,d2⟩:=hw';go_simp⟩) hH ?_;try simp only[Act.put,List.getElem_toArray,List.getElem_cons_zero,List.getElem_cons_succ,List.setIfInBounds_toArray,List.set_cons_zero,List.set_cons_succ]
  refine wpAnyH_done (by kernel_rfl) (NoPanic.normal ?_) _;clear hH;by_cases hnr:(n:Int)≤(r:Int)
  ·go_upto_region 2 with fail;refine wp_region_noPanic ?_;refine wp_region_heldM (fun w'=>w'.cell? ⟨w.heap.size,0,none⟩=some (.int .i64 (l:Int))∧w'.cell? ⟨w.heap.size,1,none⟩=some (.int .i64 (r:Int))∧w'.cell? ⟨b,off+l,none⟩=some (.slice sa n sc)) 12 (by kernel_rfl) ?_;have hH:=HS.out;refine wpAnyM_take (i:=0) (oi:=_) (v:=.pointer (some ⟨b,off,none⟩)) rfl (by kernel_rfl) (by kernel_rfl) (by kernel_rfl) (by kernel_rfl) (by kernel_rfl) (fun _ _ _ h=>h) (Or.inl ⟨by rfl,fun w' hw'=>by obtain⟨d0,d1,d2⟩:=hw';go_simp⟩) hH ?_;try simp only[Act.put,List.getElem_toArray,List.getElem_cons_zero,List.getElem_cons_succ,List.setIfInBounds_toArray,List.set_cons_zero,List.set_cons_succ]
   refine wpAnyM_take (i:=1) (oi:=_) (v:=.pointer (some ⟨w.heap.size,0,none⟩)) rfl (by kernel_rfl) (by kernel_rfl) (by kernel_rfl) (by kernel_rfl) (by kernel_rfl) (fun _ _ _ h=>h) (Or.inl ⟨by rfl,fun w' hw'=>by obtain⟨d0,d1,d2⟩:=hw';go_simp⟩) hH ?_;try simp only[Act.put,List.getElem_toArray,List.getElem_cons_zero,List.getElem_cons_succ,List.setIfInBounds_toArray,List.set_cons_zero,List.set_cons_succ]
   refine wpAnyM_take (i:=2) (oi:=_) (v:=.int .i64 (l:Int)) rfl (by kernel_rfl) (by kernel_rfl) (by kernel_rfl) (by kernel_rfl) (by kernel_rfl) (fun _ _ _ h=>h) (Or.inl ⟨by rfl,fun w' hw'=>by obtain⟨d0,d1,d2⟩:=hw';go_simp⟩) hH ?_;try simp only[Act.put,List.getElem_toArray,List.getElem_cons_zero,List.getElem_cons_succ,List.setIfInBounds_toArray,List.set_cons_zero,List.set_cons_succ]
   refine wpAnyM_take (i:=3) (oi:=_) (v:=.pointer (some ⟨b,off,none⟩)) rfl (by kernel_rfl) (by kernel_rfl) (by kernel_rfl) (by kernel_rfl) (by kernel_rfl) (fun _ _ _ h=>h) (Or.inl ⟨by rfl,fun w' hw'=>by obtain⟨d0,d1,d2⟩:=hw';go_simp⟩) hH ?_;try simp only[Act.put,List.getElem_toArray,List.getElem_cons_zero,List.getElem_cons_succ,List.setIfInBounds_toArray,List.set_cons_zero,List.set_cons_succ]
   refine wpAnyM_take (i:=4) (oi:=_) (v:=.pointer (some ⟨w.heap.size,0,none⟩)) rfl (by kernel_rfl) (by kernel_rfl) (by kernel_rfl) (by kernel_rfl) (by kernel_rfl) (fun _ _ _ h=>h) (Or.inl ⟨by rfl,fun w' hw'=>by obtain⟨d0,d1,d2⟩:=hw';go_simp⟩) hH ?_;try simp only[Act.put,List.getElem_toArray,List.getElem_cons_zero,List.getElem_cons_succ,List.setIfInBounds_toArray,List.set_cons_zero,List.set_cons_succ]
   refine wpAnyM_take (i:=5) (oi:=_) (v:=.int .i64 (l:Int)) rfl (by kernel_rfl) (by kernel_rfl) (by kernel_rfl) (by kernel_rfl) (by kernel_rfl) (fun _ _ _ h=>h) (Or.inl ⟨by rfl,fun w' hw'=>by obtain⟨d0,d1,d2⟩:=hw';go_simp⟩) hH ?_;try simp only[Act.put,List.getElem_toArray,List.getElem_cons_zero,List.getElem_cons_succ,List.setIfInBounds_toArray,List.set_cons_zero,List.set_cons_succ]
   refine wpAnyM_take (i:=6) (oi:=_) (v:=.pointer (some ⟨b,off,none⟩)) rfl (by kernel_rfl) (by kernel_rfl) (by kernel_rfl) (by kernel_rfl) (by kernel_rfl) (fun _ _ _ h=>h) (Or.inl ⟨by rfl,fun w' hw'=>by obtain⟨d0,d1,d2⟩:=hw';go_simp⟩) hH ?_;try simp only[Act.put,List.getElem_toArray,List.getElem_cons_zero,List.getElem_cons_succ,List.setIfInBounds_toArray,List.set_cons_zero,List.set_cons_succ]
   refine wpAnyM_take (i:=7) (oi:=_) (v:=.pointer (some ⟨b,off+l,none⟩)) rfl (by kernel_rfl) (by kernel_rfl) (by kernel_rfl) (by kernel_rfl) (by kernel_rfl) (fun _ _ _ h=>h) (Or.inl ⟨by rfl,fun w' hw'=>by obtain⟨d0,d1,d2⟩:=hw';go_simp⟩) hH ?_;try simp only[Act.put,List.getElem_toArray,List.getElem_cons_zero,List.getElem_cons_succ,List.setIfInBounds_toArray,List.set_cons_zero,List.set_cons_succ]
   refine wpAnyM_take (i:=8) (oi:=_) (v:=.slice sa n sc) rfl (by kernel_rfl) (by kernel_rfl) (by kernel_rfl) (by kernel_rfl) (by kernel_rfl) (fun _ _ _ h=>h) (Or.inl ⟨by rfl,fun w' hw'=>by obtain⟨d0,d1,d2⟩:=hw';go_simp⟩) hH ?_;try simp only[Act.put,List.getElem_toArray,List.getElem_cons_zero,List.getElem_cons_succ,List.setIfInBounds_toArray,List.set_cons_zero,List.set_cons_succ]
   refine wpAnyM_take (i:=11) (oi:=_) (v:=.pointer (some ⟨b,off,none⟩)) rfl (by kernel_rfl) (by kernel_rfl) (by kernel_rfl) (by kernel_rfl) (by kernel_rfl) (fun _ _ _ h=>h) (Or.inl ⟨by rfl,fun w' hw'=>by obtain⟨d0,d1,d2⟩:=hw';go_simp⟩) hH ?_;try simp only[Act.put,List.getElem_toArray,List.getElem_cons_zero,List.getElem_cons_succ,List.setIfInBounds_toArray,List.set_cons_zero,List.set_cons_succ]
   refine wpAnyM_one (i:=9) (by kernel_rfl) rfl (fun K hK=>?_);go_simp;have bA:Below wr.heap.size wr (wr.alloc (.cells #[.int .i64 0] 3)):=(Below.refl _ _).alloc (Nat.le_refl _) _;have HA:=hide (show SetI w b (off+l) C t base sv L l r j (.slice sa n sc) (wr.alloc (.cells #[.int .i64 0] 3)) from⟨HI.out.1.le,HI.out.1.box.alloc _,HI.out.1.row.alloc _,HI.out.1.own,HI.out.1.spot.alloc _,HI.out.1.old.grown (row:=none) ⟨bA.os,bA.tape,bA.output,bA.size,fun k hk _=>bA.block k hk⟩ (fun k e=>by cases e)⟩);have HRA:=hide (show(wr.alloc (.cells #[.int .i64 0] 3)).ownsRow base 3 1 (.slice sa n sc) n ((L++List.replicate j 0).map (Value.int .i64)) from HI.out.2.1.alloc _);have hS9:(wr.alloc (.cells #[.int .i64 0] 3)).cell? ⟨w.heap.size,0,none⟩=some (.int .i64 (l:Int))∧(wr.alloc (.cells #[.int .i64 0] 3)).cell? ⟨w.heap.size,1,none⟩=some (.int .i64 (r:Int))∧(wr.alloc (.cells #[.int .i64 0] 3)).cell? ⟨b,off+l,none⟩=some (.slice sa n sc):=⟨(HA.out.spot.cell 0).trans rfl,(HA.out.spot.cell 1).trans rfl,set_cell HA.out.box hiC⟩;refine hK.out _ _ (fun _ _=>hS9) ?_;clear hK K hH hS9;try simp only[Act.put,List.getElem_toArray,List.getElem_cons_zero,List.getElem_cons_succ,List.setIfInBounds_toArray,List.set_cons_zero,List.set_cons_succ]
   refine wpAnyM_one (i:=10) (by kernel_rfl) rfl (fun K hK=>?_);rw[if_pos (by rfl)];refine wp_append_own_atT (.tmp 24) (.tmp 25) 26 rfl base 3 i0 (.int .i64 0) 1 8 Tryz.underlying26 HT.out.1 HT.out.2.1 HT.out.2.2.1 HT.out.2.2.2 rfl (by decide) (.slice sa n sc) n _ rfl HRA.out ⟨wr.heap.size,0,none⟩ 1 1 [.int .i64 0] rfl rfl (one_newH wr _ _) (by simp[Value.oneCell']) (by unfold maxLen;omega) (by omega) (by have h1:=HI.out.1.old.size;have h2:=bA.size;exact Nat.le_trans hbs (Nat.le_trans h1 h2)) ?_;intro v8 w8 o8 g8' a8;have g8:(wr.alloc (.cells #[.int .i64 0] 3)).grownBy w8 (Value.slice sa n sc).ownBlock:=⟨g8'.os,g8'.tape,g8'.output,g8'.size,g8'.block⟩;clear g8';obtain⟨va8,vc8,rfl⟩:=own_shapeT o8;have H8:=hide (And.intro o8 (And.intro g8 a8));have K8:=hide (show Blk w8 b (C.setIfInBounds (off+l) (.slice sa n sc)) t∧Blk w8 w.heap.size #[.int .i64 (l:Int),.int .i64 (r:Int)] 123 from⟨blk_own HRA.out HA.out.box HT2.out g8,blk_own HRA.out HA.out.spot (by decide) g8⟩);clear o8 g8 a8;have hH:w8.cell? ⟨w.heap.size,0,none⟩=some (.int .i64 (l:Int))∧w8.cell? ⟨w.heap.size,1,none⟩=some (.int .i64 (r:Int))∧w8.cell? ⟨b,off+l,none⟩=some (.slice sa n sc):=⟨(K8.out.2.cell 0).trans rfl,(K8.out.2.cell 1).trans rfl,set_cell K8.out.1 hiC⟩;refine hK.out _ _ (fun _ _=>hH) ?_;clear hK K;try simp only[Act.put,List.getElem_toArray,List.getElem_cons_zero,List.getElem_cons_succ,List.setIfInBounds_toArray,List.set_cons_zero,List.set_cons_succ]
   have c8:=hH.2.2;have f8:=K8.out.1.frozen (off+l);clear hH;refine wpAnyM_one (i:=12) (by kernel_rfl) rfl (fun K hK=>?_);go_simp;refine hK.out _ _ (fun h=>absurd rfl h) ?_;clear hK K;try simp only[Act.put,List.getElem_toArray,List.getElem_cons_zero,List.getElem_cons_succ,List.setIfInBounds_toArray,List.set_cons_zero,List.set_cons_succ]
   refine wpAnyM_one (i:=13) (by kernel_rfl) rfl (fun K hK=>?_);go_simp;refine hK.out _ _ (fun _ h=>Bool.noConfusion (show true=false from h)) ?_;clear hK K c8 f8;refine wpAnyM_done (by kernel_rfl) (NoPanic.normal ?_) _;obtain⟨WF,hWF⟩:∃WF,WF=w8.setCell ⟨b,off+l,none⟩ (.slice va8 (n+1) vc8):=⟨_,rfl⟩;rw[←hWF];have HF:=hide (show SetI w b (off+l) C t base sv L l r (j+1) (.slice va8 (n+1) vc8) WF from by
    have hne:b≠w.heap.size:=(by omega);refine⟨by have:=HI.out.2.2;omega,?_,?_,?_,?_,?_⟩
    ·rw[hWF];have h:=K8.out.1.set (off+l) (.slice va8 (n+1) vc8);rw[Array.setIfInBounds_setIfInBounds] at h;exact h
    ·rw[hWF,List.replicate_succ', ←List.append_assoc,List.map_append,show L.length+(j+1)=n+1 by have:=HI.out.2.2;omega];exact own_setT H8.out.1 K8.out.1 HT2.out
    ·rcases H8.out.2.2 with e|e
     ·rw[e];exact HI.out.1.own
     ·exact .inr ⟨_,e,by have h1:=HI.out.1.old.size;have h2:=bA.size;exact Nat.le_trans h1 h2⟩
    ·rw[hWF];exact K8.out.2.other _ _ (fun e=>hne e.symm)
    ·rw[hWF];refine(HA.out.old.grown H8.out.2.1 (fun k e hk=>?_)).grown (row:=some b) ?_ (fun k e _=>.inl (by cases e;rfl))
     ·rcases HI.out.1.own with h|⟨g,h,hg⟩
      ·exact .inr (h.symm.trans e)
      ·rw[h] at e;cases e;omega
     ·exact⟨rfl,rfl,rfl,by simp,fun k _ hk=>heap_setCell_other w8 ⟨b,off+l,none⟩ k _ (fun e=>hk (by rw[e]))⟩)
   have HL:=hide (show lenM b (off+l) WF=n+1 from by unfold lenM;rw[set_cell HF.out.box hiC]);clear hWF;go_roundw
   case rel=>exact⟨_,_,_,_,_,_,_,_,_,_,_,_,_,_,_,_,_,_,_,_,_,_,_,⟨_,_,HF.out⟩,rfl⟩
   case measure=>rw[HM0.out,HL.out];omega
  ·have hj:j=r+1-L.length:=(by have:=HI.out.2.2;omega);obtain⟨g,cp,e,_,hcd⟩:=own_cellT HI.out.2.1 (by omega);injection e with e1 e2 e3;subst e1;clear hcd e2 e3;have hrI:(r:Int)<(n:Int):=(by omega);have hcm:sc≤9223372036854775807:=(by have:=(rd_capI (Rd.own (k:=.i64) HI.out.2.1)).2.2;unfold maxLen at this;omega);have HJ:=hide hj;clear hj;go_upto_region 3 with fail;refine wp_region_noPanic ?_;refine wp_region_heldM (fun w'=>w'.cell? ⟨w.heap.size,0,none⟩=some (.int .i64 (l:Int))∧w'.cell? ⟨w.heap.size,1,none⟩=some (.int .i64 (r:Int))∧w'.cell? ⟨b,off+l,none⟩=some (.slice (some ⟨g,0,none⟩) n sc)) 9 (by kernel_rfl) ?_;have hH:=HS.out;refine wpAnyM_take (i:=0) (oi:=_) (v:=.pointer (some ⟨b,off,none⟩)) rfl (by kernel_rfl) (by kernel_rfl) (by kernel_rfl) (by kernel_rfl) (by kernel_rfl) (fun _ _ _ h=>h) (Or.inl ⟨by rfl,fun w' hw'=>by obtain⟨d0,d1,d2⟩:=hw';go_simp⟩) hH ?_;try simp only[Act.put,List.getElem_toArray,List.getElem_cons_zero,List.getElem_cons_succ,List.setIfInBounds_toArray,List.set_cons_zero,List.set_cons_succ]
   refine wpAnyM_take (i:=1) (oi:=_) (v:=.pointer (some ⟨w.heap.size,0,none⟩)) rfl (by kernel_rfl) (by kernel_rfl) (by kernel_rfl) (by kernel_rfl) (by kernel_rfl) (fun _ _ _ h=>h) (Or.inl ⟨by rfl,fun w' hw'=>by obtain⟨d0,d1,d2⟩:=hw';go_simp⟩) hH ?_;try simp only[Act.put,List.getElem_toArray,List.getElem_cons_zero,List.getElem_cons_succ,List.setIfInBounds_toArray,List.set_cons_zero,List.set_cons_succ]
   refine wpAnyM_take (i:=2) (oi:=_) (v:=.int .i64 (l:Int)) rfl (by kernel_rfl) (by kernel_rfl) (by kernel_rfl) (by kernel_rfl) (by kernel_rfl) (fun _ _ _ h=>h) (Or.inl ⟨by rfl,fun w' hw'=>by obtain⟨d0,d1,d2⟩:=hw';go_simp⟩) hH ?_;try simp only[Act.put,List.getElem_toArray,List.getElem_cons_zero,List.getElem_cons_succ,List.setIfInBounds_toArray,List.set_cons_zero,List.set_cons_succ]
   refine wpAnyM_take (i:=3) (oi:=_) (v:=.pointer (some ⟨b,off,none⟩)) rfl (by kernel_rfl) (by kernel_rfl) (by kernel_rfl) (by kernel_rfl) (by kernel_rfl) (fun _ _ _ h=>h) (Or.inl ⟨by rfl,fun w' hw'=>by obtain⟨d0,d1,d2⟩:=hw';go_simp⟩) hH ?_;try simp only[Act.put,List.getElem_toArray,List.getElem_cons_zero,List.getElem_cons_succ,List.setIfInBounds_toArray,List.set_cons_zero,List.set_cons_succ]
   refine wpAnyM_take (i:=4) (oi:=_) (v:=.pointer (some ⟨b,off+l,none⟩)) rfl (by kernel_rfl) (by kernel_rfl) (by kernel_rfl) (by kernel_rfl) (by kernel_rfl) (fun _ _ _ h=>h) (Or.inl ⟨by rfl,fun w' hw'=>by obtain⟨d0,d1,d2⟩:=hw';go_simp⟩) hH ?_;try simp only[Act.put,List.getElem_toArray,List.getElem_cons_zero,List.getElem_cons_succ,List.setIfInBounds_toArray,List.set_cons_zero,List.set_cons_succ]
   refine wpAnyM_take (i:=5) (oi:=_) (v:=.slice (some ⟨g,0,none⟩) n sc) rfl (by kernel_rfl) (by kernel_rfl) (by kernel_rfl) (by kernel_rfl) (by kernel_rfl) (fun _ _ _ h=>h) (Or.inl ⟨by rfl,fun w' hw'=>by obtain⟨d0,d1,d2⟩:=hw';go_simp⟩) hH ?_;try simp only[Act.put,List.getElem_toArray,List.getElem_cons_zero,List.getElem_cons_succ,List.setIfInBounds_toArray,List.set_cons_zero,List.set_cons_succ]
   refine wpAnyM_take (i:=6) (oi:=_) (v:=.pointer (some ⟨w.heap.size,1,none⟩)) rfl (by kernel_rfl) (by kernel_rfl) (by kernel_rfl) (by kernel_rfl) (by kernel_rfl) (fun _ _ _ h=>h) (Or.inl ⟨by rfl,fun w' hw'=>by obtain⟨d0,d1,d2⟩:=hw';go_simp⟩) hH ?_;try simp only[Act.put,List.getElem_toArray,List.getElem_cons_zero,List.getElem_cons_succ,List.setIfInBounds_toArray,List.set_cons_zero,List.set_cons_succ]
   refine wpAnyM_take (i:=7) (oi:=_) (v:=.int .i64 (r:Int)) rfl (by kernel_rfl) (by kernel_rfl) (by kernel_rfl) (by kernel_rfl) (by kernel_rfl) (fun _ _ _ h=>h) (Or.inl ⟨by rfl,fun w' hw'=>by obtain⟨d0,d1,d2⟩:=hw';go_simp⟩) hH ?_;try simp only[Act.put,List.getElem_toArray,List.getElem_cons_zero,List.getElem_cons_succ,List.setIfInBounds_toArray,List.set_cons_zero,List.set_cons_succ]
   refine wpAnyM_take (i:=8) (oi:=_) (v:=.int .i64 x) rfl (by kernel_rfl) (by kernel_rfl) (by kernel_rfl) (by kernel_rfl) (by kernel_rfl) (fun _ _ _ h=>h) (Or.inl ⟨by rfl,fun w' hw'=>by obtain⟨d0,d1,d2⟩:=hw';go_simp⟩) hH ?_;try simp only[Act.put,List.getElem_toArray,List.getElem_cons_zero,List.getElem_cons_succ,List.setIfInBounds_toArray,List.set_cons_zero,List.set_cons_succ]
   clear hH;refine wpAnyM_one (i:=9) (by kernel_rfl) rfl (fun K hK=>?_);go_simp;refine hK.out _ _ (fun h=>absurd rfl h) ?_;clear hK K;try simp only[Act.put,List.getElem_toArray,List.getElem_cons_zero,List.getElem_cons_succ,List.setIfInBounds_toArray,List.set_cons_zero,List.set_cons_succ]
   have c9:∃u,wr.cell? ⟨g,r,none⟩=some u:=by
    have h:=HI.out.2.1.cellAt r (by omega);have hl1:=HI.out.2.1.1;rw[List.getElem?_eq_getElem (by omega)] at h;exact⟨_,h⟩
   obtain⟨u9,c9⟩:=c9;have f9:=HI.out.2.1.frozenAt r;refine wpAnyM_one (i:=10) (by kernel_rfl) rfl (fun K hK=>?_);go_simp;refine hK.out _ _ (fun _ h=>Bool.noConfusion (show true=false from h)) ?_;clear hK K c9 f9;refine wpAnyM_done (by kernel_rfl) (NoPanic.normal ?_) _;go_end0;have hst:=HI.out.2.1.stored r (.int .i64 x);have hgb:(Value.slice (some ⟨g,0,none⟩) n sc).ownBlock≠some b:=blk_off HI.out.2.1 HI.out.1.box HT2.out;have hgb2:b≠g:=fun e=>hgb (by rw[e];rfl);have hnl:(setN L r x).length=n:=(by unfold setN;rw[List.length_set,List.length_append,List.length_replicate];have:=HI.out.2.2;have:=HJ.out;omega);have he:((L++List.replicate j 0).map (Value.int .i64)).set r (.int .i64 x)=(setN L r x).map (Value.int .i64):=(by unfold setN;rw[List.map_set,HJ.out]);refine⟨rfl,.slice (some ⟨g,0,none⟩) n sc,HI.out.1.box.other ⟨g,r,none⟩ _ hgb2,?_,HI.out.1.own,?_⟩
   ·rw[hnl, ←he];exact hst.1
   ·have hN:=HI.out.1.old.grown hst.2 (fun k e hk=>by
     rcases HI.out.1.own with h|⟨g',h,hg'⟩
     ·exact .inr (h.symm.trans e)
     ·have e2:some g'=some k:=h.symm.trans e;injection e2 with e3;omega)
    exact⟨hN.os,hN.tape,hN.output,hN.size,hN.block⟩
end
section
open Go.RowKit Go.Shelf
attribute [local go_sem] Oper.semAt_some
def upd{α:Type}(f:Nat→α)(l:Nat)(v:α):Nat→α:=fun k=>if k=l then v else f k
theorem upd_same{α:Type}(f:Nat→α)(l:Nat)(v:α):upd f l v l=v:=if_pos rfl
theorem upd_other{α:Type}(f:Nat→α)(l k:Nat)(v:α)(h:k≠l):upd f l v k=f k:=if_neg h
structure NumS(W:World)(base b off:Nat)(C:Array Value)(t:TypeId)(sl:Nat→Value)(Ls:Nat→List Int):Prop where
 box:Blk W b C t
 at_:∀l,l<3→C[off+l]?=some (sl l)
 row:∀l,l<3→W.ownsRow base 3 1 (sl l) (Ls l).length ((Ls l).map (Value.int .i64))
 apart:∀l m,l<3→m<3→l≠m→(sl l).ownBlock=none∨(sl l).ownBlock≠(sl m).ownBlock
theorem NumS.below{W W':World}{base b off:Nat}{C:Array Value}{t:TypeId}{sl:Nat→Value}{Ls:Nat→List Int}(h:NumS W base b off C t sl Ls)(hb:Below W.heap.size W W'):NumS W' base b off C t sl Ls:=
 ⟨h.box.below hb h.box.lt,h.at_,fun l hl=>own_belowT (h.row l hl) hb,h.apart⟩
theorem NumS.abide{A B:World}{row:Option Nat}{z base b off:Nat}{C:Array Value}{t:TypeId}{sl:Nat→Value}{Ls:Nat→List Int}(h:NumS A base b off C t sl Ls)(hg:A.grownBy B row)(hr:∀r,row=some r→z≤r∧∃o,A.heap[r]?=some o∧o.isCells=false):NumS B base b off C t sl Ls:=
 ⟨blk_abide h.box hg hr,h.at_,fun l hl=>own_abide (h.row l hl) hg hr,h.apart⟩
theorem NumF.own{w w':World}{b:Nat}{sv v:Value}{base n:Nat}{e:TypeId}{xs:List Value}(h:NumF w w' b sv)(ho:w.ownsRow base e 1 v n xs)(hb:v.ownBlock≠some b)(hv:v.ownBlock=none∨v.ownBlock≠sv.ownBlock):w'.ownsRow base e 1 v n xs:=by
 refine⟨ho.1,?_⟩;rcases ho.2 with h1|⟨g,cap,cur,rfl,hbs,hg,h2⟩
 ·exact .inl h1
 ·refine .inr ⟨g,cap,cur,rfl,hbs,?_,h2⟩;have hlt:g<w.heap.size:=(Array.getElem?_eq_some_iff.1 hg).1;refine(h.block g hlt (fun e=>hb (by rw[e];rfl)) (fun e=>?_)).trans hg;rcases hv with h3|h3
  ·cases h3
  ·exact h3 (by rw[e];rfl)
theorem NumF.blk{w w':World}{b k base n:Nat}{sv:Value}{C:Array Value}{t:TypeId}{xs:List Value}(h:NumF w w' b sv)(ho:w.ownsRow base 3 1 sv n xs)(hk:Blk w k C t)(hkb:k≠b)(ht:t≠3):Blk w' k C t:=
 (h.block k hk.lt hkb (blk_off ho hk ht)).trans hk
theorem atS_any(b off l r:Nat)(C:Array Value)(t:TypeId)(sl:Nat→Value)(Ls:Nat→List Int)(base:Nat)(w:World)(h:NumS w base b off C t sl Ls)(hl:l<3)(hr:r≤100000):
 Calls Tryz.prog 69 #[.pointer (some ⟨b,off,none⟩),spotV l r] w fun e w'=>e=.returned (.int .i64 ((Ls l).getD r 0))∧Below w.heap.size w w':=
 at_any b off l r (sl l) (Ls l) w hl hr h.box.lt ((h.box.cell _).trans (h.at_ l hl)) (Rd.own (h.row l hl))
theorem setS2_any(b off l r:Nat)(C:Array Value)(t:TypeId)(sl:Nat→Value)(Ls:Nat→List Int)(x:Int)(base:Nat)(w:World)(h:NumS w base b off C t sl Ls)(hl:l<3)(hr:r≤100000)(hLl:(Ls l).length≤100001)(ht:t≠3)(hbs:base≤w.heap.size):
 Calls Tryz.prog 85 #[.pointer (some ⟨b,off,none⟩),spotV l r,.int .i64 x] w fun e w'=>e=.returned (.tuple #[])∧∃sw,NumS w' base b off (C.setIfInBounds (off+l) sw) t (upd sl l sw) (upd Ls l (setN (Ls l) r x))∧NumF w w' b (sl l)∧(sw.ownBlock=(sl l).ownBlock∨∃g,sw.ownBlock=some g∧w.heap.size≤g):=by
 refine(set_any b off l r (off+l) C t (sl l) (Ls l) x base w hl hr hLl rfl h.box (h.at_ l hl) ht (h.row l hl) hbs).mono ?_;rintro e w' ⟨rfl,sw,h1,h2,h3,h4⟩;refine⟨rfl,sw,⟨h1,fun m hm=>?_,fun m hm=>?_,fun m k hm hk hne=>?_⟩,h4,h3⟩
 ·by_cases e:m=l
  ·subst e;rw[upd_same,Array.getElem?_setIfInBounds_self_of_lt (Array.getElem?_eq_some_iff.1 (h.at_ m hm)).1]
  ·rw[upd_other _ _ _ _ e,Array.getElem?_setIfInBounds_ne (by omega)];exact h.at_ m hm
 ·by_cases e:m=l
  ·subst e;rw[upd_same,upd_same];exact h2
  ·rw[upd_other _ _ _ _ e,upd_other _ _ _ _ e];exact h4.own (h.row m hm) (blk_off (h.row m hm) h.box ht) (h.apart m l hm hl e)
 ·have lt:∀j g,j<3→(sl j).ownBlock=some g→g<w.heap.size:=fun j g hj hg=>((h.row j hj).lt g hg).2;by_cases e1:m=l
  ·subst e1;have e2:k≠m:=fun e=>hne e.symm;rw[upd_same,upd_other _ _ _ _ e2];rcases h3 with h3|⟨g,h3,hg⟩
   ·rw[h3];exact h.apart m k hm hk hne
   ·refine .inr (fun e=>?_);rw[h3] at e;have:=lt k g hk e.symm;omega
  ·rw[upd_other _ _ _ _ e1];by_cases e2:k=l
   ·subst e2;rw[upd_same];rcases h3 with h3|⟨g,h3,hg⟩
    ·rw[h3];exact h.apart m k hm hk hne
    ·refine .inr (fun e=>?_);rw[h3] at e;have:=lt m g hm e;omega
   ·rw[upd_other _ _ _ _ e2];exact h.apart m k hm hk hne
theorem setS_any(b off l r:Nat)(C:Array Value)(t:TypeId)(sl:Nat→Value)(Ls:Nat→List Int)(x:Int)(base:Nat)(w:World)(h:NumS w base b off C t sl Ls)(hl:l<3)(hr:r≤100000)(hLl:(Ls l).length≤100001)(ht:t≠3)(hbs:base≤w.heap.size):
 Calls Tryz.prog 85 #[.pointer (some ⟨b,off,none⟩),spotV l r,.int .i64 x] w fun e w'=>e=.returned (.tuple #[])∧∃sw,NumS w' base b off (C.setIfInBounds (off+l) sw) t (upd sl l sw) (upd Ls l (setN (Ls l) r x))∧NumF w w' b (sl l):=by
 refine(setS2_any b off l r C t sl Ls x base w h hl hr hLl ht hbs).mono ?_;rintro e w' ⟨h1,sw,h2,h3,_⟩;exact⟨h1,sw,h2,h3⟩
def numL(pre:List TX):Nat→List Int:=pre.foldl (fun f x=>upd f x.1.1 (setN (f x.1.1) x.1.2.1 x.1.2.2)) (fun _=>[])
theorem numL_snoc(pre:List TX)(x:TX):numL (pre++[x])=upd (numL pre) x.1.1 (setN (numL pre x.1.1) x.1.2.1 x.1.2.2):=by unfold numL;rw[List.foldl_append];rfl
theorem setN_len(L:List Int)(r:Nat)(x:Int):(setN L r x).length=max L.length (r+1):=by unfold setN;rw[List.length_set,List.length_append,List.length_replicate];omega
end
end Go.Proofs.YtbhpealglhkodaaGreatDoor
