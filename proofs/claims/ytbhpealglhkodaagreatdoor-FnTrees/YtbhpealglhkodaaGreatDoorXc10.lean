/- The program's walk over a tree: tell. -/
import Derived.Test.YtbhpealglhkodaaGreatDoorXc08
import Derived.Shelf.Abstract
import Derived.Shelf.RegionOpen
import Derived.OwnWalkIn
import Derived.TacticsInMore
import Derived.LoopNIn
import Derived.LoopIn
import Derived.Sort.CutIn
import Derived.Test.YtbhpealglhkodaaGreatDoorXc09
namespace Go.Proofs.YtbhpealglhkodaaGreatDoor
set_option linter.all false
set_option maxRecDepth 100000
set_option maxHeartbeats 16000000
section
open Go.RowKit Go.Shelf
attribute [local go_sem] Oper.semAt_some
theorem room_noneT{F:Fence}(hd:F.depth=none)(k:Nat):F.room k:=fun d h=>by rw[hd] at h;cases h
theorem YieldAt.depthT{m:Nat}(m':Nat){P:Program}{l:Nat}{args:Array Value}{W:World}{R:Ending→World→Prop}(h:YieldAt Fence.wide m P l args W R):YieldAt Fence.wide m' P l args W R:=by
 obtain⟨fn,tmps,assign,body,hy,hR⟩:=h;exact⟨fn,tmps,assign,body,hy,hR.1,fun c cs _=>hR.2 c cs (room_noneT rfl _)⟩
def tellG(cnt n:Nat)(W:Int→Nat→Int):Nat→Nat→Int→TL
 |0,r,p=>if cnt≤firI 0 r∨p=0 then([],false) else if goodP n p=false then([],true) else([(0,r,p)],false)
 |l+1,r,p=>if cnt≤firI (l+1) r∨p=0 then([],false) else if goodP n p=false then([],true) else thenT ([(l+1,r,p)],false) (allT ((List.range 128).map fun k=>tellG cnt n W l (belR l r k) (W p k)))
theorem tellG_none{cnt n:Nat}{W:Int→Nat→Int}{l r:Nat}{p:Int}(h:cnt≤firI l r∨p=0):tellG cnt n W l r p=([],false):=by
 cases l with
 |zero=>unfold tellG;rw[if_pos h]
 |succ l=>unfold tellG;rw[if_pos h]
theorem tellG_bad{cnt n:Nat}{W:Int→Nat→Int}{l r:Nat}{p:Int}(h:¬(cnt≤firI l r∨p=0))(hg:goodP n p=false):tellG cnt n W l r p=([],true):=by
 cases l with
 |zero=>unfold tellG;rw[if_neg h,if_pos hg]
 |succ l=>unfold tellG;rw[if_neg h,if_pos hg]
theorem tellG_zero{cnt n:Nat}{W:Int→Nat→Int}{r:Nat}{p:Int}(h:¬(cnt≤firI 0 r∨p=0))(hg:goodP n p=true):tellG cnt n W 0 r p=([(0,r,p)],false):=by
 unfold tellG;rw[if_neg h,if_neg (by rw[hg];decide)]
theorem tellG_succ{cnt n:Nat}{W:Int→Nat→Int}{l r:Nat}{p:Int}(h:¬(cnt≤firI (l+1) r∨p=0))(hg:goodP n p=true):tellG cnt n W (l+1) r p=thenT ([(l+1,r,p)],false) (allT ((List.range 128).map fun k=>tellG cnt n W l (belR l r k) (W p k))):=by
 conv=>lhs;unfold tellG
 rw[if_neg h,if_neg (by rw[hg];decide)]
theorem tellG_pre{cnt n:Nat}{W:Int→Nat→Int}{l r:Nat}{p:Int}{Z:TL}{A:List HG}(h:¬(cnt≤firI l r∨p=0))(hg:goodP n p=true)(hF:FitsT Z A (tellG cnt n W l r p)):A++[(l,r,p)]<+:Z.1:=by
 cases l with
 |zero=>rw[tellG_zero h hg] at hF;exact hF.pre
 |succ l=>rw[tellG_succ h hg] at hF;exact hF.fst.pre
theorem allT_at:∀(L:List TL) (k:Nat) (a:TL),(∀x∈L.take k,x.2=false)→L[k]?=some a→a.2=true→allT L=((L.take k).flatMap (·.1)++a.1,true)
 |[],_,_,_,h,_=>by simp at h
 |b::L,0,a,_,h,ha=>by
  simp at h;subst h;obtain⟨b1,b2⟩:=b;simp at ha;subst ha;simp[allT,thenT]
 |b::L,k+1,a,h,hk,ha=>by
  have hb:b.2=false:=h b (by simp);have ih:=allT_at L k a (fun x hx=>h x (by simp[hx])) (by simpa using hk) ha;unfold allT;rw[ih];unfold thenT;simp[hb]
theorem fits_next{Z:TL}{A:List HG}{L:List TL}{k:Nat}{a:TL}(h:FitsT Z (A++(L.take k).flatMap (·.1)) (allT (L.drop k)))(hk:L[k]?=some a):
 FitsT Z (A++(L.take k).flatMap (·.1)) a∧(a.2=false→FitsT Z (A++(L.take (k+1)).flatMap (·.1)) (allT (L.drop (k+1)))):=by
 obtain⟨hlt,e⟩:=List.getElem?_eq_some_iff.1 hk;rw[List.drop_eq_getElem_cons hlt,e] at h;refine⟨h.fst,fun ha=>?_⟩;have:=h.snd ha;rw[List.take_succ_eq_append_getElem hlt,e,List.flatMap_append];simpa using this
theorem index128(ws:List Int)(k:Nat)(hl:ws.length=128)(hk:k<128)(w:World):(Instr.index 154 (.agg (ws.map (Value.int .i64)).toArray) (.int .i64 (k:Int))).run Tryz.prog w=.ok (.int .i64 (ws.getD k 0)) w:=by
 have hg:k<ws.length:=by omega
 simp[Instr.index,run_underlying Tryz.underlying154,asIntOf,go_sem,hg];intro h;omega
theorem belR_le{l r k:Nat}(hl:l≤1)(hk:k<128)(h:firI (l+1) r<512):firI l (belR l r k)≤100000:=by
 rcases Nat.le_one_iff_eq_zero_or_eq_one.1 hl with rfl|rfl
 ·simp[firI,belR] at h⊢;omega
 ·simp[firI,belR] at h⊢;omega
structure LpT(n₀ z:Nat)(Ty:TypeId→Prop)(J:List TX→World→Prop)(Z:TL)(A:List HG)(L:List TL)(C D:Array Value)(W:World)(k:Nat)(wr:World):Prop where
 inv:J (upX (A++(L.take k).flatMap (·.1))) wr
 fits:FitsT Z (A++(L.take k).flatMap (·.1)) (allT (L.drop k))
 good:∀x∈L.take k,x.2=false
 kq:Kq n₀ z Ty W wr
 tree:Blk wr W.heap.size C 75
 spot:Blk wr (W.heap.size+1) D 123
theorem blocksT_any(sz:Nat)(w:World)(hs:sz≤262144):Calls Tryz.prog 103 #[.int .i64 (sz:Int)] w fun e w'=>e=.returned (.int .i64 (((sz+511)/512:Nat):Int))∧w=w':=
 (blocksOf_out (sz:Int) w).mono fun e w' ⟨⟨y,he,hy⟩,hw⟩=>⟨by rw[he,hy (by omega) (by omega)];simp,hw⟩
def TellP(n₀ z:Nat)(Ty:TypeId→Prop)(J Jx:List TX→World→Prop)(A:List HG)(t:TL)(W:World)(b:Bool)(W':World):Prop:=
 (b=true∧t.2=false∧J (upX (A++t.1)) W'∧Kq n₀ z Ty W W')∨(b=false∧KeepsFrom z W W'∧((∃pre,Jx pre W')∨(t.2=true∧∃x,J (upX (A++t.1)++[x]) W')))
def TellC(lY n₀ z:Nat)(Ty:TypeId→Prop)(J Jx:List TX→World→Prop)(Z:TL)(cnt:Nat)(zs:List Int)(C:Array Value)(w0:World)(lv:Nat):Prop:=
 ∀(n r:Nat) (p:Int) (A:List HG) (W:World),firI lv r≤100000→Below n₀ w0 W→n₀≤W.heap.size→J (upX A) W→FitsT Z A (tellG cnt (zs.length/512) (wrdP zs) lv r p)→
  CallsIn Fence.wide n Tryz.prog 105 #[.agg C,spotV lv r,.int .i64 p,.func (.yield lY) #[] #[]] W fun e W'=>∃b,e=.returned (.bool b)∧TellP n₀ z Ty J Jx A (tellG cnt (zs.length/512) (wrdP zs) lv r p) W b W'
theorem tell_step(lY n₀ z:Nat)(Ty:TypeId→Prop)(J Jx:List TX→World→Prop)(Z:TL)(cnt sz:Nat)(zs:List Int)(C:Array Value)(iv:Value)(w0:World)
 (hT1:¬Ty 75) (hT2:¬Ty 123) (hJ:AbidesZ z J)
 (hY:∀m pre x W1,J pre W1→OkX Z pre x W1→YieldAt Fence.wide m Tryz.prog lY (TX.enc x) W1 fun e W'=>(e=.returned (.bool true)∧J (pre++[x]) W'∧Kq n₀ z Ty W1 W')∨(e=.returned (.bool false)∧Jx (pre++[x]) W'∧KeepsFrom z W1 W'))
 (hC0:C[0]?=some iv) (hC1:C[1]?=some (.int .i64 (sz:Int))) (hCs:C.size=16) (hR:Rd .u8 w0 iv zs) (hn₀:n₀=w0.heap.size) (hz:zs.length≤1048576) (hbd:∀z∈zs,0≤z∧z<256) (hsz:sz≤262144) (hcnt:cnt=(sz+511)/512)
 (lv:Nat) (hlv:lv≤2) (ih:∀l',lv=l'+1→TellC lY n₀ z Ty J Jx Z cnt zs C w0 l'):TellC lY n₀ z Ty J Jx Z cnt zs C w0 lv:=by
 intro n r p A W hf hb0 hW hJA hFit;have hmx:Tryz.prog.follows .mixedOrders=true:=by kernel_rfl
 have hdd:∀k:Nat,(Fence.wide.depth.isSome=true→1≤k):=fun k h=>by cases h
 obtain⟨W2,hW2⟩:∃W2,W2=(W.alloc (.cells C 75)).alloc (.cells #[.int .i64 (lv:Int),.int .i64 (r:Int)] 123):=⟨_,rfl⟩;have HB2:=hide (show Below W.heap.size W W2 from by rw[hW2];exact((Below.refl _ _).alloc (Nat.le_refl _) _).alloc (by simp) _);have HS2:=hide (show W2.heap.size=W.heap.size+2 by rw[hW2];simp);have KC:=hide (show Blk W2 W.heap.size C 75 from by rw[hW2];exact(Blk.new W C 75).alloc _);have KS:=hide (show Blk W2 (W.heap.size+1) #[.int .i64 (lv:Int),.int .i64 (r:Int)] 123 from by have h:=Blk.new (W.alloc (.cells C 75)) #[.int .i64 (lv:Int),.int .i64 (r:Int)] 123;rw[World.size_alloc] at h;rw[hW2];exact h);have HW2:=hide hW2;have HF:=hide (And.intro hf (And.intro hb0 (And.intro hW (And.intro hJA hFit))));have HG:=hide (And.intro hY (And.intro hR (And.intro hbd ih)));have HC:=hide (And.intro hC0 (And.intro hC1 hCs));obtain⟨fi,hfi⟩:∃fi,fi=firI lv r:=⟨_,rfl⟩;have HFI:=hide hfi;have hfb:fi≤100000:=by rw[hfi];exact hf
 clear hf hb0 hW hJA hFit hW2 hfi hY hR hbd ih hC0 hC1 hCs;refine callsIn_of_wp Tryz.func105 rfl trivial ?_ rfl;simp only[Tryz.ntmps105,List.size_toArray,List.length_cons,List.length_nil,Nat.reduceAdd,Nat.reduceSub,Array.replicate_succ,Array.replicate_zero,List.push_toArray,List.append_toArray,List.nil_append,List.cons_append];gi_upto_region 1 with fail
 rw[←HW2.out];have cs0:=(KS.out.cell 0).trans (show _=some (.int .i64 (lv:Int)) from rfl);have cs1:=(KS.out.cell 1).trans (show _=some (.int .i64 (r:Int)) from rfl);have ct1:=(KC.out.cell 1).trans HC.out.2.1;gi_cut [21] from 63 (fun v wr=>v=.bool (decide (cnt≤fi∨p=0))∧Below W2.heap.size W2 wr)
 case first Jc Kc hJc hKc=>
  have HFC:=hide (And.intro hsz hcnt);clear hcnt;by_cases h1:cnt≤fi
  ·have HD:=hide (show decide (cnt≤fi∨p=0)=true by simp[h1]);have h1':(cnt:Int)≤(fi:Int):=(by omega);clear h1;refine wpIn_wide.2 ?_;refine wp_region_noPanic ?_;refine wp_region_held_drew (S:=fun w'=>Below W2.heap.size W2 w') (by kernel_rfl) ((Below.refl _ _).drew) (fun hH=>?_);refine wpAnyH_take (i:=0) (oi:=_) (v:=.agg #[.int .i64 (lv:Int),.int .i64 (r:Int)]) rfl (by kernel_rfl) (by kernel_rfl) (by kernel_rfl) (fun _ _ _ h=>h) (Or.inl ⟨by rfl,fun w' hw'=>by have d0:=(hw'.cell (p:=⟨W.heap.size+1,0,none⟩) KS.out.lt).trans cs0;have d1:=(hw'.cell (p:=⟨W.heap.size+1,1,none⟩) KS.out.lt).trans cs1;go_simp⟩) hH ?_;try simp only[Act.put,List.getElem_toArray,List.getElem_cons_zero,List.getElem_cons_succ,List.setIfInBounds_toArray,List.set_cons_zero,List.set_cons_succ]
   refine wpAnyH_take (i:=2) (oi:=_) (v:=.pointer (some ⟨W.heap.size,1,none⟩)) rfl (by kernel_rfl) (by kernel_rfl) (by kernel_rfl) (fun _ _ _ h=>h) (Or.inl ⟨by rfl,fun w' hw'=>by go_simp⟩) hH ?_;try simp only[Act.put,List.getElem_toArray,List.getElem_cons_zero,List.getElem_cons_succ,List.setIfInBounds_toArray,List.set_cons_zero,List.set_cons_succ]
   refine wpAnyH_take (i:=3) (oi:=_) (v:=.pointer (some ⟨W.heap.size,1,none⟩)) rfl (by kernel_rfl) (by kernel_rfl) (by kernel_rfl) (fun _ _ _ h=>h) (Or.inl ⟨by rfl,fun w' hw'=>by go_simp⟩) hH ?_;try simp only[Act.put,List.getElem_toArray,List.getElem_cons_zero,List.getElem_cons_succ,List.setIfInBounds_toArray,List.set_cons_zero,List.set_cons_succ]
   refine wpAnyH_take (i:=4) (oi:=_) (v:=.int .i64 (sz:Int)) rfl (by kernel_rfl) (by kernel_rfl) (by kernel_rfl) (fun _ _ _ h=>h) (Or.inl ⟨by rfl,fun w' hw'=>by have d1:=(hw'.cell (p:=⟨W.heap.size,1,none⟩) KC.out.lt).trans ct1;go_simp⟩) hH ?_;try simp only[Act.put,List.getElem_toArray,List.getElem_cons_zero,List.getElem_cons_succ,List.setIfInBounds_toArray,List.set_cons_zero,List.set_cons_succ]
   refine wpAnyH_ready (rs:=[1]) (by kernel_rfl) (by simp) ?_;refine AllReadyH.cons (o:=_) rfl ?_ AllReadyH.nil;intro K hK;go_simp;refine(first_any lv r _ (by omega) (by rw[←HFI.out];exact hfb)).mono ?_;rintro e w1 ⟨rfl,b1⟩;rw[←HFI.out];have B1:=hide (show Below W2.heap.size W2 w1 from((Below.refl _ _).drew).trans b1);clear b1;refine hK.out _ _ B1.out (fun hH1=>?_);clear hK K hH;try simp only[Act.put,List.getElem_toArray,List.getElem_cons_zero,List.getElem_cons_succ,List.setIfInBounds_toArray,List.set_cons_zero,List.set_cons_succ]
   refine wpAnyH_ready (rs:=[5]) (by kernel_rfl) (by simp) ?_;refine AllReadyH.cons (o:=_) rfl ?_ AllReadyH.nil;intro K hK;go_simp;refine(blocksT_any sz _ HFC.out.1).mono ?_;rintro e w2 ⟨rfl,rfl⟩;rw[←HFC.out.2];refine hK.out _ _ hH1 (fun hH2=>?_);clear hK K hH1;try simp only[Act.put,List.getElem_toArray,List.getElem_cons_zero,List.getElem_cons_succ,List.setIfInBounds_toArray,List.set_cons_zero,List.set_cons_succ]
   refine wpAnyH_take (i:=6) (oi:=_) (v:=.bool true) rfl (by kernel_rfl) (by kernel_rfl) (by kernel_rfl) (fun _ _ _ h=>h) (Or.inl ⟨by rfl,fun w' hw'=>by go_simp⟩) hH2 ?_;try simp only[Act.put,List.getElem_toArray,List.getElem_cons_zero,List.getElem_cons_succ,List.setIfInBounds_toArray,List.set_cons_zero,List.set_cons_succ]
   refine wpAnyH_take (i:=7) (oi:=_) (v:=.bool true) rfl (by kernel_rfl) (by kernel_rfl) (by kernel_rfl) (fun _ _ _ h=>h) (Or.inl ⟨by rfl,fun w' hw'=>by go_simp⟩) hH2 ?_;try simp only[Act.put,List.getElem_toArray,List.getElem_cons_zero,List.getElem_cons_succ,List.setIfInBounds_toArray,List.set_cons_zero,List.set_cons_succ]
   refine wpAnyH_take (i:=8) (oi:=_) (v:=undef) rfl (by kernel_rfl) (by kernel_rfl) (by kernel_rfl) (fun _ _ _ h=>h) (Or.inr ⟨by rfl,rfl⟩) hH2 ?_;try simp only[Act.put,List.getElem_toArray,List.getElem_cons_zero,List.getElem_cons_succ,List.setIfInBounds_toArray,List.set_cons_zero,List.set_cons_succ]
   refine wpAnyH_take (i:=9) (oi:=_) (v:=undef) rfl (by kernel_rfl) (by kernel_rfl) (by kernel_rfl) (fun _ _ _ h=>h) (Or.inr ⟨by rfl,rfl⟩) hH2 ?_;try simp only[Act.put,List.getElem_toArray,List.getElem_cons_zero,List.getElem_cons_succ,List.setIfInBounds_toArray,List.set_cons_zero,List.set_cons_succ]
   refine wpAnyH_take (i:=10) (oi:=_) (v:=.bool true) rfl (by kernel_rfl) (by kernel_rfl) (by kernel_rfl) (fun _ _ _ h=>h) (Or.inl ⟨by rfl,fun w' hw'=>by go_simp⟩) hH2 ?_;try simp only[Act.put,List.getElem_toArray,List.getElem_cons_zero,List.getElem_cons_succ,List.setIfInBounds_toArray,List.set_cons_zero,List.set_cons_succ]
   refine wpAnyH_done (by kernel_rfl) (NoPanic.normal ?_) _;exact hKc _ _ (Met.intro (hJc _ _ ⟨_,_,_,_,_,_,_,_,_,_,_,⟨by rw[HD.out],B1.out⟩,rfl⟩))
  ·have h1':¬((cnt:Int)≤(fi:Int)):=(by omega);by_cases h2:p=0
   ·have HD:=hide (show decide (cnt≤fi∨p=0)=true by simp[h2]);have h2':(p==0)=true:=(by simp[h2]);clear h1 h2;refine wpIn_wide.2 ?_;refine wp_region_noPanic ?_;refine wp_region_held_drew (S:=fun w'=>Below W2.heap.size W2 w') (by kernel_rfl) ((Below.refl _ _).drew) (fun hH=>?_);refine wpAnyH_take (i:=0) (oi:=_) (v:=.agg #[.int .i64 (lv:Int),.int .i64 (r:Int)]) rfl (by kernel_rfl) (by kernel_rfl) (by kernel_rfl) (fun _ _ _ h=>h) (Or.inl ⟨by rfl,fun w' hw'=>by have d0:=(hw'.cell (p:=⟨W.heap.size+1,0,none⟩) KS.out.lt).trans cs0;have d1:=(hw'.cell (p:=⟨W.heap.size+1,1,none⟩) KS.out.lt).trans cs1;go_simp⟩) hH ?_;try simp only[Act.put,List.getElem_toArray,List.getElem_cons_zero,List.getElem_cons_succ,List.setIfInBounds_toArray,List.set_cons_zero,List.set_cons_succ]
    refine wpAnyH_take (i:=2) (oi:=_) (v:=.pointer (some ⟨W.heap.size,1,none⟩)) rfl (by kernel_rfl) (by kernel_rfl) (by kernel_rfl) (fun _ _ _ h=>h) (Or.inl ⟨by rfl,fun w' hw'=>by go_simp⟩) hH ?_;try simp only[Act.put,List.getElem_toArray,List.getElem_cons_zero,List.getElem_cons_succ,List.setIfInBounds_toArray,List.set_cons_zero,List.set_cons_succ]
    refine wpAnyH_take (i:=3) (oi:=_) (v:=.pointer (some ⟨W.heap.size,1,none⟩)) rfl (by kernel_rfl) (by kernel_rfl) (by kernel_rfl) (fun _ _ _ h=>h) (Or.inl ⟨by rfl,fun w' hw'=>by go_simp⟩) hH ?_;try simp only[Act.put,List.getElem_toArray,List.getElem_cons_zero,List.getElem_cons_succ,List.setIfInBounds_toArray,List.set_cons_zero,List.set_cons_succ]
    refine wpAnyH_take (i:=4) (oi:=_) (v:=.int .i64 (sz:Int)) rfl (by kernel_rfl) (by kernel_rfl) (by kernel_rfl) (fun _ _ _ h=>h) (Or.inl ⟨by rfl,fun w' hw'=>by have d1:=(hw'.cell (p:=⟨W.heap.size,1,none⟩) KC.out.lt).trans ct1;go_simp⟩) hH ?_;try simp only[Act.put,List.getElem_toArray,List.getElem_cons_zero,List.getElem_cons_succ,List.setIfInBounds_toArray,List.set_cons_zero,List.set_cons_succ]
    refine wpAnyH_ready (rs:=[1]) (by kernel_rfl) (by simp) ?_;refine AllReadyH.cons (o:=_) rfl ?_ AllReadyH.nil;intro K hK;go_simp;refine(first_any lv r _ (by omega) (by rw[←HFI.out];exact hfb)).mono ?_;rintro e w1 ⟨rfl,b1⟩;rw[←HFI.out];have B1:=hide (show Below W2.heap.size W2 w1 from((Below.refl _ _).drew).trans b1);clear b1;refine hK.out _ _ B1.out (fun hH1=>?_);clear hK K hH;try simp only[Act.put,List.getElem_toArray,List.getElem_cons_zero,List.getElem_cons_succ,List.setIfInBounds_toArray,List.set_cons_zero,List.set_cons_succ]
    refine wpAnyH_ready (rs:=[5]) (by kernel_rfl) (by simp) ?_;refine AllReadyH.cons (o:=_) rfl ?_ AllReadyH.nil;intro K hK;go_simp;refine(blocksT_any sz _ HFC.out.1).mono ?_;rintro e w2 ⟨rfl,rfl⟩;rw[←HFC.out.2];refine hK.out _ _ hH1 (fun hH2=>?_);clear hK K hH1;try simp only[Act.put,List.getElem_toArray,List.getElem_cons_zero,List.getElem_cons_succ,List.setIfInBounds_toArray,List.set_cons_zero,List.set_cons_succ]
    refine wpAnyH_take (i:=6) (oi:=_) (v:=.bool false) rfl (by kernel_rfl) (by kernel_rfl) (by kernel_rfl) (fun _ _ _ h=>h) (Or.inl ⟨by rfl,fun w' hw'=>by go_simp⟩) hH2 ?_;try simp only[Act.put,List.getElem_toArray,List.getElem_cons_zero,List.getElem_cons_succ,List.setIfInBounds_toArray,List.set_cons_zero,List.set_cons_succ]
    refine wpAnyH_take (i:=7) (oi:=_) (v:=.bool false) rfl (by kernel_rfl) (by kernel_rfl) (by kernel_rfl) (fun _ _ _ h=>h) (Or.inl ⟨by rfl,fun w' hw'=>by go_simp⟩) hH2 ?_;try simp only[Act.put,List.getElem_toArray,List.getElem_cons_zero,List.getElem_cons_succ,List.setIfInBounds_toArray,List.set_cons_zero,List.set_cons_succ]
    refine wpAnyH_take (i:=8) (oi:=_) (v:=.int .i64 p) rfl (by kernel_rfl) (by kernel_rfl) (by kernel_rfl) (fun _ _ _ h=>h) (Or.inl ⟨by rfl,fun w' hw'=>by go_simp⟩) hH2 ?_;try simp only[Act.put,List.getElem_toArray,List.getElem_cons_zero,List.getElem_cons_succ,List.setIfInBounds_toArray,List.set_cons_zero,List.set_cons_succ]
    refine wpAnyH_take (i:=9) (oi:=_) (v:=.bool true) rfl (by kernel_rfl) (by kernel_rfl) (by kernel_rfl) (fun _ _ _ h=>h) (Or.inl ⟨by rfl,fun w' hw'=>by go_simp⟩) hH2 ?_;try simp only[Act.put,List.getElem_toArray,List.getElem_cons_zero,List.getElem_cons_succ,List.setIfInBounds_toArray,List.set_cons_zero,List.set_cons_succ]
    refine wpAnyH_take (i:=10) (oi:=_) (v:=.bool true) rfl (by kernel_rfl) (by kernel_rfl) (by kernel_rfl) (fun _ _ _ h=>h) (Or.inl ⟨by rfl,fun w' hw'=>by go_simp⟩) hH2 ?_;try simp only[Act.put,List.getElem_toArray,List.getElem_cons_zero,List.getElem_cons_succ,List.setIfInBounds_toArray,List.set_cons_zero,List.set_cons_succ]
    refine wpAnyH_done (by kernel_rfl) (NoPanic.normal ?_) _;exact hKc _ _ (Met.intro (hJc _ _ ⟨_,_,_,_,_,_,_,_,_,_,_,⟨by rw[HD.out],B1.out⟩,rfl⟩))
   ·have HD:=hide (show decide (cnt≤fi∨p=0)=false by simp[h1,h2]);have h2':(p==0)=false:=(by simp[h2]);clear h1 h2;refine wpIn_wide.2 ?_;refine wp_region_noPanic ?_;refine wp_region_held_drew (S:=fun w'=>Below W2.heap.size W2 w') (by kernel_rfl) ((Below.refl _ _).drew) (fun hH=>?_);refine wpAnyH_take (i:=0) (oi:=_) (v:=.agg #[.int .i64 (lv:Int),.int .i64 (r:Int)]) rfl (by kernel_rfl) (by kernel_rfl) (by kernel_rfl) (fun _ _ _ h=>h) (Or.inl ⟨by rfl,fun w' hw'=>by have d0:=(hw'.cell (p:=⟨W.heap.size+1,0,none⟩) KS.out.lt).trans cs0;have d1:=(hw'.cell (p:=⟨W.heap.size+1,1,none⟩) KS.out.lt).trans cs1;go_simp⟩) hH ?_;try simp only[Act.put,List.getElem_toArray,List.getElem_cons_zero,List.getElem_cons_succ,List.setIfInBounds_toArray,List.set_cons_zero,List.set_cons_succ]
    refine wpAnyH_take (i:=2) (oi:=_) (v:=.pointer (some ⟨W.heap.size,1,none⟩)) rfl (by kernel_rfl) (by kernel_rfl) (by kernel_rfl) (fun _ _ _ h=>h) (Or.inl ⟨by rfl,fun w' hw'=>by go_simp⟩) hH ?_;try simp only[Act.put,List.getElem_toArray,List.getElem_cons_zero,List.getElem_cons_succ,List.setIfInBounds_toArray,List.set_cons_zero,List.set_cons_succ]
    refine wpAnyH_take (i:=3) (oi:=_) (v:=.pointer (some ⟨W.heap.size,1,none⟩)) rfl (by kernel_rfl) (by kernel_rfl) (by kernel_rfl) (fun _ _ _ h=>h) (Or.inl ⟨by rfl,fun w' hw'=>by go_simp⟩) hH ?_;try simp only[Act.put,List.getElem_toArray,List.getElem_cons_zero,List.getElem_cons_succ,List.setIfInBounds_toArray,List.set_cons_zero,List.set_cons_succ]
    refine wpAnyH_take (i:=4) (oi:=_) (v:=.int .i64 (sz:Int)) rfl (by kernel_rfl) (by kernel_rfl) (by kernel_rfl) (fun _ _ _ h=>h) (Or.inl ⟨by rfl,fun w' hw'=>by have d1:=(hw'.cell (p:=⟨W.heap.size,1,none⟩) KC.out.lt).trans ct1;go_simp⟩) hH ?_;try simp only[Act.put,List.getElem_toArray,List.getElem_cons_zero,List.getElem_cons_succ,List.setIfInBounds_toArray,List.set_cons_zero,List.set_cons_succ]
    refine wpAnyH_ready (rs:=[1]) (by kernel_rfl) (by simp) ?_;refine AllReadyH.cons (o:=_) rfl ?_ AllReadyH.nil;intro K hK;go_simp;refine(first_any lv r _ (by omega) (by rw[←HFI.out];exact hfb)).mono ?_;rintro e w1 ⟨rfl,b1⟩;rw[←HFI.out];have B1:=hide (show Below W2.heap.size W2 w1 from((Below.refl _ _).drew).trans b1);clear b1;refine hK.out _ _ B1.out (fun hH1=>?_);clear hK K hH;try simp only[Act.put,List.getElem_toArray,List.getElem_cons_zero,List.getElem_cons_succ,List.setIfInBounds_toArray,List.set_cons_zero,List.set_cons_succ]
    refine wpAnyH_ready (rs:=[5]) (by kernel_rfl) (by simp) ?_;refine AllReadyH.cons (o:=_) rfl ?_ AllReadyH.nil;intro K hK;go_simp;refine(blocksT_any sz _ HFC.out.1).mono ?_;rintro e w2 ⟨rfl,rfl⟩;rw[←HFC.out.2];refine hK.out _ _ hH1 (fun hH2=>?_);clear hK K hH1;try simp only[Act.put,List.getElem_toArray,List.getElem_cons_zero,List.getElem_cons_succ,List.setIfInBounds_toArray,List.set_cons_zero,List.set_cons_succ]
    refine wpAnyH_take (i:=6) (oi:=_) (v:=.bool false) rfl (by kernel_rfl) (by kernel_rfl) (by kernel_rfl) (fun _ _ _ h=>h) (Or.inl ⟨by rfl,fun w' hw'=>by go_simp⟩) hH2 ?_;try simp only[Act.put,List.getElem_toArray,List.getElem_cons_zero,List.getElem_cons_succ,List.setIfInBounds_toArray,List.set_cons_zero,List.set_cons_succ]
    refine wpAnyH_take (i:=7) (oi:=_) (v:=.bool false) rfl (by kernel_rfl) (by kernel_rfl) (by kernel_rfl) (fun _ _ _ h=>h) (Or.inl ⟨by rfl,fun w' hw'=>by go_simp⟩) hH2 ?_;try simp only[Act.put,List.getElem_toArray,List.getElem_cons_zero,List.getElem_cons_succ,List.setIfInBounds_toArray,List.set_cons_zero,List.set_cons_succ]
    refine wpAnyH_take (i:=8) (oi:=_) (v:=.int .i64 p) rfl (by kernel_rfl) (by kernel_rfl) (by kernel_rfl) (fun _ _ _ h=>h) (Or.inl ⟨by rfl,fun w' hw'=>by go_simp⟩) hH2 ?_;try simp only[Act.put,List.getElem_toArray,List.getElem_cons_zero,List.getElem_cons_succ,List.setIfInBounds_toArray,List.set_cons_zero,List.set_cons_succ]
    refine wpAnyH_take (i:=9) (oi:=_) (v:=.bool false) rfl (by kernel_rfl) (by kernel_rfl) (by kernel_rfl) (fun _ _ _ h=>h) (Or.inl ⟨by rfl,fun w' hw'=>by go_simp⟩) hH2 ?_;try simp only[Act.put,List.getElem_toArray,List.getElem_cons_zero,List.getElem_cons_succ,List.setIfInBounds_toArray,List.set_cons_zero,List.set_cons_succ]
    refine wpAnyH_take (i:=10) (oi:=_) (v:=.bool false) rfl (by kernel_rfl) (by kernel_rfl) (by kernel_rfl) (fun _ _ _ h=>h) (Or.inl ⟨by rfl,fun w' hw'=>by go_simp⟩) hH2 ?_;try simp only[Act.put,List.getElem_toArray,List.getElem_cons_zero,List.getElem_cons_succ,List.setIfInBounds_toArray,List.set_cons_zero,List.set_cons_succ]
    refine wpAnyH_done (by kernel_rfl) (NoPanic.normal ?_) _;exact hKc _ _ (Met.intro (hJc _ _ ⟨_,_,_,_,_,_,_,_,_,_,_,⟨by rw[HD.out],B1.out⟩,rfl⟩))
 case rest=>
  obtain⟨rfl,hbc⟩:=hcut;have HBC:=hide hbc;have ct0:=(hbc.cell (p:=⟨W.heap.size,0,none⟩) KC.out.lt).trans ((KC.out.cell 0).trans HC.out.1);have KCc:=hide (KC.out.below hbc KC.out.lt);have KSc:=hide (KS.out.below hbc KS.out.lt);clear ct1 cs0 cs1 hbc;have HBW:=hide (show Below W.heap.size W wc from HB2.out.trans (HBC.out.mono HB2.out.size));have HJc:=hide (show J (upX A) wc from hJ _ _ _ none HF.out.2.2.2.1 ⟨HBW.out.os,HBW.out.tape,HBW.out.output,HBW.out.size,fun k hk _=>HBW.out.block k hk⟩ (fun r e=>by cases e));have HKw:=hide (show KeepsFrom z W wc from(Kq.of_below (n₀:=0) (Ty:=Ty) HBW.out (Nat.zero_le _)).keepsZ);obtain⟨sa,sc,rfl⟩:=rd_shapeT HG.out.2.1;obtain⟨nb,hnb⟩:∃nb:Nat,nb=zs.length/512:=⟨_,rfl⟩;have hnb2:(zs.length:Int)/512=(nb:Int):=by omega
  have HNB:=hide hnb;clear hnb;by_cases hcond:cnt≤fi∨p=0
  ·have hd:decide (cnt≤fi∨p=0)=true:=(by simp[hcond]);rw[hd];clear hd;have HT:=hide (show tellG cnt (zs.length/512) (wrdP zs) lv r p=([],false) from tellG_none (by rw[←HFI.out];exact hcond));clear hcond;gi_wp2
   go_ret;exact⟨true,rfl,.inl ⟨rfl,by rw[HT.out],by rw[HT.out,List.append_nil];exact HJc.out,Kq.of_below HBW.out HF.out.2.2.1⟩⟩
  ·have hd:decide (cnt≤fi∨p=0)=false:=(by simp[hcond]);rw[hd];clear hd;have HCN:=hide (show ¬(cnt≤firI lv r∨p=0) by rw[←HFI.out];exact hcond);have hp0:p≠0:=fun e=>hcond (.inr e);have HPG:=hide (show ptrB p (nb:Int)=goodP (zs.length/512) p by unfold ptrB goodP;rw[HNB.out];simp[hp0]);clear hcond;cases hgd:goodP (zs.length/512) p with
   |false=>
    have HT:=hide (tellG_bad (W:=wrdP zs) HCN.out hgd);have HGD:=hide hgd;clear hgd;obtain⟨W4,hW4⟩:∃W4,W4=(wc.alloc (.cells #[.int .i64 21] 110)).alloc (.cells #[.string ⟨#[112,111,105,110,116,101,114]⟩,.iface 108 (.pointer (some ⟨wc.heap.size,0,none⟩))] 176):=⟨_,rfl⟩;have HB4:=hide (show Below wc.heap.size wc W4 from by rw[hW4];exact((Below.refl _ _).alloc (Nat.le_refl _) _).alloc (by simp) _);have HFl:=hide (show Flt W4 0 1 (.iface 174 (.pointer (some ⟨wc.heap.size+1,0,none⟩))) 21 from by
     refine⟨wc.heap.size+1,.iface 108 (.pointer (some ⟨wc.heap.size,0,none⟩)),rfl,by omega,?_,wc.heap.size,rfl,by omega,?_⟩
     ·rw[hW4];simp
     ·rw[hW4];simp)
    have HJ4:=hide (show J (upX A) W4 from hJ _ _ _ none HJc.out ⟨HB4.out.os,HB4.out.tape,HB4.out.output,HB4.out.size,fun k hk _=>HB4.out.block k hk⟩ (fun r e=>by cases e));obtain⟨fn,tmps,assign,body,hy,hRd⟩:=HG.out.1 (n-1) (upX A) ((0,0,0),.iface 174 (.pointer (some ⟨wc.heap.size+1,0,none⟩))) W4 HJ4.out (.inr ⟨rfl,A,rfl,by have:=HF.out.2.2.2.2.bad (by rw[HT.out]);rw[HT.out,List.append_nil] at this;exact this,1,HFl.out⟩);replace hy:(Instr.yield lY #[.agg #[.int .i64 0,.int .i64 0,.int .i64 0],.iface 174 (.pointer (some ⟨wc.heap.size+1,0,none⟩))]).run Tryz.prog W4=.ok (.round lY fn tmps assign body) W4:=hy;have HRd:=hide hRd;clear hRd;subst hW4;gi_upto_region 4 with(first|(refine⟨trivial,hdd _,?_⟩;gi_at_call 116;refine(callsIn_wide.2 (isPointer_any p (nb:Int) _)).mono ?_;rintro e w9 ⟨rfl,rfl⟩;rw[HPG.out,HGD.out]))
    gi_wp2
    refine⟨hdd _,?_⟩;refine HRd.out.mono ?_;rintro e W5 (⟨rfl,hj5,hk5⟩|⟨rfl,hx5⟩)
    ·have H5:=hide (And.intro hj5 ((HKw.out.trans (Kq.of_below (n₀:=0) (Ty:=Ty) HB4.out (Nat.zero_le _)).keepsZ).trans hk5.keepsZ));clear hj5 hk5;gi_wp2
     go_ret;exact⟨false,rfl,.inr ⟨rfl,H5.out.2,.inr ⟨by rw[HT.out],_,by rw[HT.out,List.append_nil];exact H5.out.1⟩⟩⟩
    ·have H5:=hide (And.intro hx5.1 ((HKw.out.trans (Kq.of_below (n₀:=0) (Ty:=Ty) HB4.out (Nat.zero_le _)).keepsZ).trans hx5.2));clear hx5;gi_wp2
     go_ret;exact⟨false,rfl,.inr ⟨rfl,H5.out.2,.inl ⟨_,H5.out.1⟩⟩⟩
   |true=>
    have HGD:=hide hgd;obtain⟨hp2,hp3⟩:=good_pos hgd hp0;obtain⟨q,rfl⟩:∃q:Nat,p=(q:Int):=⟨p.toNat,by omega⟩;have hq1:q*512+512≤zs.length:=(by omega);clear hgd hp2 hp3 hp0;obtain⟨fn,tmps,assign,body,hy,hRd⟩:=HG.out.1 (n-1) (upX A) ((lv,r,(q:Int)),.nilIface) wc HJc.out (.inl ⟨rfl,A,rfl,tellG_pre HCN.out HGD.out HF.out.2.2.2.2⟩);replace hy:(Instr.yield lY #[.agg #[.int .i64 (lv:Int),.int .i64 (r:Int),.int .i64 (q:Int)],.nilIface]).run Tryz.prog wc=.ok (.round lY fn tmps assign body) wc:=hy;have HRd:=hide hRd;clear hRd;have cS0:=(KSc.out.cell 0).trans (show _=some (.int .i64 (lv:Int)) from rfl);have cS1:=(KSc.out.cell 1).trans (show _=some (.int .i64 (r:Int)) from rfl);gi_upto_region 6 with(first|(refine⟨trivial,hdd _,?_⟩;gi_at_call 116;refine(callsIn_wide.2 (isPointer_any (q:Int) (nb:Int) _)).mono ?_;rintro e w9 ⟨rfl,rfl⟩;rw[HPG.out,HGD.out]))
    gi_wp2
    refine⟨hdd _,?_⟩;refine HRd.out.mono ?_;rintro e W5 (⟨rfl,hj5,hk5⟩|⟨rfl,hx5⟩)
    ·rw[←upX_snoc] at hj5;have KC5:=hide (hk5.blk KCc.out hT1);have KS5:=hide (hk5.blk KSc.out hT2);have H5:=hide (And.intro hj5 ((Kq.of_below (Ty:=Ty) (z:=z) HBW.out HF.out.2.2.1).trans hk5));have c5:=(KS5.out.cell 0).trans (show _=some (.int .i64 (lv:Int)) from rfl);clear hj5 hk5 cS0 cS1 ct0 hy HRd;cases lv with
     |zero=>
      have HT:=hide (tellG_zero (W:=wrdP zs) HCN.out HGD.out);gi_wp2
      go_ret;exact⟨true,rfl,.inl ⟨rfl,by rw[HT.out],by rw[HT.out];exact H5.out.1,H5.out.2⟩⟩
     |succ l'=>
      have HT:=hide (tellG_succ (W:=wrdP zs) HCN.out HGD.out);have h5:((l':Int)+1==0)=false:=(by simp;omega);have c5':W5.cell? ⟨W.heap.size+1,0,none⟩=some (.int .i64 ((l':Int)+1)):=(by rw[c5];simp);clear c5;have HR5:=hide (show Rd .u8 W5 (.slice sa zs.length sc) zs from HG.out.2.1.below (by rw[←hn₀];exact HF.out.2.1.trans H5.out.2.below));obtain⟨ws,hws⟩:∃ws,ws=(List.range 128).map (wrdP zs (q:Int)):=⟨_,rfl⟩;have HWS:=hide hws;clear hws;gi_upto_region 10 with fail
      refine wpIn_wide.2 ?_;go_wp2_with (first
       |(refine wpList_load_row rfl 75 _ rfl W.heap.size rfl 75 C (0,0) _ KC5.out Tryz.underlying75 rfl (by rw[HC.out.2.2];exact infoTr) ?_)
       |(go_at_call 93;refine(pointersAt_any C _ zs q _ HC.out.1 HC.out.2.2 HR5.out hq1 hz HG.out.2.2.1).mono ?_;rintro e w6 ⟨rfl,b6⟩;rw[←HWS.out];have B6:=hide b6;clear b6))
      have hws:=HWS.out;have hwl:ws.length=128:=(by rw[hws];simp);have HWG:=hide (show ∀k,k<128→ws.getD k 0=wrdP zs (q:Int) k from fun k hk=>by rw[hws];simp[List.getD,hk]);have HIX:=hide (fun(k:Nat) (hk:k<128) (w:World)=>index128 ws k hwl hk w);obtain⟨L,hL⟩:∃L,L=(List.range 128).map (fun k=>(tellG cnt (zs.length/512) (wrdP zs) l' (belR l' r k) (wrdP zs (q:Int) k))):=⟨_,rfl⟩;have HL:=hide (show ∀k,k<128→L[k]?=some (tellG cnt (zs.length/512) (wrdP zs) l' (belR l' r k) (wrdP zs (q:Int) k)) from fun k hk=>by rw[hL];simp[hk]);have HLl:=hide (show L.length=128 by rw[hL];simp);have HTL:=hide (show tellG cnt (zs.length/512) (wrdP zs) (l'+1) r (q:Int)=thenT ([(l'+1,r,(q:Int))],false) (allT L) from by rw[hL];exact HT.out);have HL0:=hide (show LpT n₀ z Ty J Z (A++[(l'+1,r,(q:Int))]) L C #[.int .i64 ((l'+1:Nat):Int),.int .i64 (r:Int)] W 0 w6 from by
       refine⟨?_,?_,fun x hx=>by simp at hx,H5.out.2.trans (Kq.of_below B6.out (Nat.le_trans HF.out.2.2.1 H5.out.2.size)),KC5.out.below B6.out KC5.out.lt,KS5.out.below B6.out KS5.out.lt⟩
       ·simp only[List.take_zero,List.flatMap_nil,List.append_nil];exact hJ _ _ _ none H5.out.1 ⟨B6.out.os,B6.out.tape,B6.out.output,B6.out.size,fun k hk _=>B6.out.block k hk⟩ (fun r e=>by cases e)
       ·simp only[List.take_zero,List.flatMap_nil,List.append_nil,List.drop_zero];have:=HF.out.2.2.2.2;rw[HTL.out] at this;exact this.snd rfl)
      have hc512:cnt≤512:=(by omega);have HFB:=hide (show ∀k,k<128→firI l' (belR l' r k)≤100000 from fun k hk=>belR_le (by omega) hk (by have h1:=HCN.out;omega));clear h5 c5' hws hL hwl hcnt;gi_wp2
      gi_loopw [50] (fun kv wr=>∃k:Nat,k≤128∧kv=.int .i64 (k:Int)∧LpT n₀ z Ty J Z (A++[(l'+1,r,(q:Int))]) L C #[.int .i64 ((l'+1:Nat):Int),.int .i64 (r:Int)] W k wr) (fun kv _=>128-(intOf kv).toNat)
      case atStart=>exact⟨0,by omega,rfl,HL0.out⟩
      case round=>
       obtain⟨k,hk,rfl,hlp⟩:=hrel;have HLp:=hide hlp;clear hlp HL0;by_cases hk2:k<128
       ·have hkI:(k:Int)<128:=(by omega);have hix:=HIX.out k hk2;rw[HWG.out k hk2] at hix;have e0:=(HLp.out.spot.cell 0).trans (show _=some (.int .i64 ((l'+1:Nat):Int)) from rfl);have e1:=(HLp.out.spot.cell 1).trans (show _=some (.int .i64 (r:Int)) from rfl);obtain⟨x,hx⟩:∃x,x=wrdP zs (q:Int) k:=⟨_,rfl⟩;rw[←hx] at hix;have HX:=hide hx;clear hx;gi_upto_region 13 with fail
        gi_cut [61] from 63 (fun v w'=>∃b w1,v=.bool (!b)∧Below wr.heap.size wr w1∧TellP n₀ z Ty J Jx ((A++[(l'+1,r,(q:Int))])++(L.take k).flatMap (·.1)) (tellG cnt (zs.length/512) (wrdP zs) l' (belR l' r k) (wrdP zs (q:Int) k)) w1 b w')
        case first Jc Kc hJc hKc=>
         refine wpIn_wide.2 ?_;refine wp_region_noPanic ?_;refine wp_region_heldM (fun w'=>Below wr.heap.size wr w') 6 (by kernel_rfl) ?_;have hH:Below wr.heap.size wr wr.drew:=(Below.refl _ _).drew;refine wpAnyM_take (i:=0) (oi:=_) (v:=.agg C.toList.toArray) rfl (by kernel_rfl) (by kernel_rfl) (by kernel_rfl) (by kernel_rfl) (by kernel_rfl) (fun _ _ _ h=>h) (yieldsIf_load_mid (by rfl) 75 _ rfl W.heap.size 0 rfl C.toList _ (fun w' hw' j u hj=>by rw[Nat.zero_add,(hw'.cell (p:=⟨W.heap.size,j,none⟩) HLp.out.tree.lt),HLp.out.tree.cell j];simpa using hj) Tryz.underlying75 rfl (by rw[Array.length_toList,HC.out.2.2];exact infoTr)) hH ?_;try simp only[Act.put,List.getElem_toArray,List.getElem_cons_zero,List.getElem_cons_succ,List.setIfInBounds_toArray,List.set_cons_zero,List.set_cons_succ]
         simp only[Array.toArray_toList];refine wpAnyM_take (i:=4) (oi:=_) (v:=.int .i64 x) rfl (by kernel_rfl) (by kernel_rfl) (by kernel_rfl) (by kernel_rfl) (by kernel_rfl) (fun _ _ _ h=>h) (Or.inl ⟨by rfl,fun w' hw'=>by go_simp⟩) hH ?_;try simp only[Act.put,List.getElem_toArray,List.getElem_cons_zero,List.getElem_cons_succ,List.setIfInBounds_toArray,List.set_cons_zero,List.set_cons_succ]
         refine wpAnyM_take (i:=5) (oi:=_) (v:=.func (.yield lY) #[] #[]) rfl (by kernel_rfl) (by kernel_rfl) (by kernel_rfl) (by kernel_rfl) (by kernel_rfl) (fun _ _ _ h=>h) (Or.inl ⟨by rfl,fun w' hw'=>by go_simp⟩) hH ?_;try simp only[Act.put,List.getElem_toArray,List.getElem_cons_zero,List.getElem_cons_succ,List.setIfInBounds_toArray,List.set_cons_zero,List.set_cons_succ]
         have f0:=(hH.cell (p:=⟨W.heap.size+1,0,none⟩) HLp.out.spot.lt).trans e0;have f1:=(hH.cell (p:=⟨W.heap.size+1,1,none⟩) HLp.out.spot.lt).trans e1;refine wpAnyM_two (i:=1) (j:=2) (by kernel_rfl) rfl rfl (fun K hK=>?_) (fun K hK=>?_)
         ·go_simp;refine hK.out _ _ (fun _ _=>hH) ?_;clear hK K;try simp only[Act.put,List.getElem_toArray,List.getElem_cons_zero,List.getElem_cons_succ,List.setIfInBounds_toArray,List.set_cons_zero,List.set_cons_succ]
          refine wpAnyM_one (i:=2) (by kernel_rfl) rfl (fun K hK=>?_);go_simp;refine hK.out _ _ (fun _ _=>hH) ?_;clear hK K;try simp only[Act.put,List.getElem_toArray,List.getElem_cons_zero,List.getElem_cons_succ,List.setIfInBounds_toArray,List.set_cons_zero,List.set_cons_succ]
          refine wpAnyM_one (i:=3) (by kernel_rfl) rfl (fun K hK=>?_);go_simp;refine(spotBelow_any l' r k _ (by omega) (by have h1:=HCN.out;have h2:=firI_le (l'+1) r;have h3:=HFB.out 0 (by omega);have h4:=firI_le l' (belR l' r 0);unfold belR at h4;omega) (by omega)).mono ?_;rintro e w1 ⟨rfl,b1⟩;have B1:=hide (show Below wr.heap.size wr w1 from hH.trans b1);clear b1;refine hK.out _ _ (fun _ _=>B1.out) ?_;clear hK K;try simp only[Act.put,List.getElem_toArray,List.getElem_cons_zero,List.getElem_cons_succ,List.setIfInBounds_toArray,List.set_cons_zero,List.set_cons_succ]
          refine wpAnyM_one (i:=6) (by kernel_rfl) rfl (fun K hK=>?_);go_simp;have hbw:Below n₀ w0 w1:=HF.out.2.1.trans (HLp.out.kq.below.trans (B1.out.mono (Nat.le_trans HF.out.2.2.1 HLp.out.kq.size)));have hjw:=hJ _ _ w1 none HLp.out.inv ⟨B1.out.os,B1.out.tape,B1.out.output,B1.out.size,fun k hk _=>B1.out.block k hk⟩ (fun r e=>by cases e);have hcall:=callsIn_wide.1 (HG.out.2.2.2 l' rfl 0 (belR l' r k) x _ w1 (HFB.out k hk2) hbw (Nat.le_trans HF.out.2.2.1 (Nat.le_trans HLp.out.kq.size B1.out.size)) hjw (by rw[HX.out];exact(fits_next HLp.out.fits (HL.out k hk2)).1));refine hcall.mono ?_;rintro e w2 ⟨b,rfl,htp⟩;have HTP:=hide htp;clear htp hcall hjw hbw;refine hK.out _ _ (fun h _=>absurd rfl h) ?_;clear hK K;try simp only[Act.put,List.getElem_toArray,List.getElem_cons_zero,List.getElem_cons_succ,List.setIfInBounds_toArray,List.set_cons_zero,List.set_cons_succ]
          refine wpAnyM_one (i:=7) (by kernel_rfl) rfl (fun K hK=>?_);go_simp;refine hK.out _ _ (fun _ h=>Bool.noConfusion (show true=false from h)) ?_;clear hK K;try simp only[Act.put,List.getElem_toArray,List.getElem_cons_zero,List.getElem_cons_succ,List.setIfInBounds_toArray,List.set_cons_zero,List.set_cons_succ]
          refine wpAnyM_done (by kernel_rfl) (NoPanic.normal ?_) _;exact hKc _ _ (Met.intro (hJc _ _ ⟨_,_,_,_,_,_,_,_,⟨b,w1,rfl,B1.out,by rw[HX.out] at HTP;exact HTP.out⟩,rfl⟩))
         ·go_simp;refine hK.out _ _ (fun _ _=>hH) ?_;clear hK K;try simp only[Act.put,List.getElem_toArray,List.getElem_cons_zero,List.getElem_cons_succ,List.setIfInBounds_toArray,List.set_cons_zero,List.set_cons_succ]
          refine wpAnyM_one (i:=1) (by kernel_rfl) rfl (fun K hK=>?_);go_simp;refine hK.out _ _ (fun _ _=>hH) ?_;clear hK K;try simp only[Act.put,List.getElem_toArray,List.getElem_cons_zero,List.getElem_cons_succ,List.setIfInBounds_toArray,List.set_cons_zero,List.set_cons_succ]
          refine wpAnyM_one (i:=3) (by kernel_rfl) rfl (fun K hK=>?_);go_simp;refine(spotBelow_any l' r k _ (by omega) (by have h1:=HCN.out;have h2:=firI_le (l'+1) r;have h3:=HFB.out 0 (by omega);have h4:=firI_le l' (belR l' r 0);unfold belR at h4;omega) (by omega)).mono ?_;rintro e w1 ⟨rfl,b1⟩;have B1:=hide (show Below wr.heap.size wr w1 from hH.trans b1);clear b1;refine hK.out _ _ (fun _ _=>B1.out) ?_;clear hK K;try simp only[Act.put,List.getElem_toArray,List.getElem_cons_zero,List.getElem_cons_succ,List.setIfInBounds_toArray,List.set_cons_zero,List.set_cons_succ]
          refine wpAnyM_one (i:=6) (by kernel_rfl) rfl (fun K hK=>?_);go_simp;have hbw:Below n₀ w0 w1:=HF.out.2.1.trans (HLp.out.kq.below.trans (B1.out.mono (Nat.le_trans HF.out.2.2.1 HLp.out.kq.size)));have hjw:=hJ _ _ w1 none HLp.out.inv ⟨B1.out.os,B1.out.tape,B1.out.output,B1.out.size,fun k hk _=>B1.out.block k hk⟩ (fun r e=>by cases e);have hcall:=callsIn_wide.1 (HG.out.2.2.2 l' rfl 0 (belR l' r k) x _ w1 (HFB.out k hk2) hbw (Nat.le_trans HF.out.2.2.1 (Nat.le_trans HLp.out.kq.size B1.out.size)) hjw (by rw[HX.out];exact(fits_next HLp.out.fits (HL.out k hk2)).1));refine hcall.mono ?_;rintro e w2 ⟨b,rfl,htp⟩;have HTP:=hide htp;clear htp hcall hjw hbw;refine hK.out _ _ (fun h _=>absurd rfl h) ?_;clear hK K;try simp only[Act.put,List.getElem_toArray,List.getElem_cons_zero,List.getElem_cons_succ,List.setIfInBounds_toArray,List.set_cons_zero,List.set_cons_succ]
          refine wpAnyM_one (i:=7) (by kernel_rfl) rfl (fun K hK=>?_);go_simp;refine hK.out _ _ (fun _ h=>Bool.noConfusion (show true=false from h)) ?_;clear hK K;try simp only[Act.put,List.getElem_toArray,List.getElem_cons_zero,List.getElem_cons_succ,List.setIfInBounds_toArray,List.set_cons_zero,List.set_cons_succ]
          refine wpAnyM_done (by kernel_rfl) (NoPanic.normal ?_) _;exact hKc _ _ (Met.intro (hJc _ _ ⟨_,_,_,_,_,_,_,_,⟨b,w1,rfl,B1.out,by rw[HX.out] at HTP;exact HTP.out⟩,rfl⟩))
        case rest=>
         obtain⟨b,w1,rfl,hb1,htp⟩:=hcut;rcases htp with⟨rfl,ht,hj,hkq⟩|⟨rfl,hx⟩
         ·have HN:=hide (show LpT n₀ z Ty J Z (A++[(l'+1,r,(q:Int))]) L C #[.int .i64 ((l'+1:Nat):Int),.int .i64 (r:Int)] W (k+1) wc from by
           have hq:Kq n₀ z Ty wr wc:=(Kq.of_below hb1 (Nat.le_trans HF.out.2.2.1 HLp.out.kq.size)).trans hkq;obtain⟨hlt,eL⟩:=List.getElem?_eq_some_iff.1 (HL.out k hk2);refine⟨?_,(fits_next HLp.out.fits (HL.out k hk2)).2 ht,?_,HLp.out.kq.trans hq,hq.blk HLp.out.tree hT1,hq.blk HLp.out.spot hT2⟩
           ·rw[List.take_succ_eq_append_getElem hlt,eL,List.flatMap_append, ←List.append_assoc];simpa using hj
           ·intro y hy;rw[List.take_succ_eq_append_getElem hlt,eL] at hy;rcases List.mem_append.1 hy with hy|hy
            ·exact HLp.out.good y hy
            ·simp at hy;rw[hy];exact ht)
          clear ht hj hkq hb1 hix e0 e1 HLp;gi_wp2
          go_roundw
          case rel=>exact⟨k+1,by omega,by go_num,HN.out⟩
          case measure=>simp[intOf];omega
         ·have HXx:=hide (And.intro hx.2 ((HLp.out.kq.keepsZ.trans (Kq.of_below (n₀:=0) (Ty:=Ty) hb1 (Nat.zero_le _)).keepsZ).trans hx.1));clear hx hb1 hix e0 e1;gi_wp2
          go_ret;refine⟨false,rfl,.inr ⟨rfl,HXx.out.2,?_⟩⟩;rcases HXx.out.1 with h|⟨h1,y,h2⟩
          ·exact .inl h
          ·refine .inr ?_;rw[HTL.out,allT_at L k _ HLp.out.good (HL.out k hk2) h1];refine⟨by simp[thenT],y,?_⟩;simpa [thenT] using h2
       ·have hk3:k=128:=(by omega);subst hk3;clear hk2;gi_wp2
        go_ret;have hta:L.take 128=L:=List.take_of_length_le (by rw[HLl.out];omega);have hg:=HLp.out.good;have hi:=HLp.out.inv;rw[hta] at hg hi;refine⟨true,rfl,.inl ⟨rfl,?_,?_,HLp.out.kq⟩⟩
        ·rw[HTL.out,allT_ok L hg];simp[thenT]
        ·rw[HTL.out,allT_ok L hg];simpa [thenT] using hi
    ·have H5:=hide (And.intro hx5.1 (HKw.out.trans hx5.2));clear hx5;gi_wp2
     go_ret;exact⟨false,rfl,.inr ⟨rfl,H5.out.2,.inl ⟨_,H5.out.1⟩⟩⟩
end
end Go.Proofs.YtbhpealglhkodaaGreatDoor
