/- Copies by append to an empty literal -/
import Derived.Test.YtbhpealglhkodaaGreatDoorXc16
namespace Go.Proofs.YtbhpealglhkodaaGreatDoor
set_option linter.all false
set_option maxRecDepth 100000
set_option maxHeartbeats 16000000
section
open Go.RowKit
theorem own_emptyM(w:World)(e:TypeId)(sz:Nat):(w.alloc (.cells #[] e)).ownsRow w.heap.size e sz (.slice (some ⟨w.heap.size,0,none⟩) 0 0) 0 []:=
 ⟨by simp,.inr ⟨w.heap.size,0,#[],rfl,Nat.le_refl _,heap_alloc_new w _,Nat.le_refl _,by simp,by simp,by simp⟩⟩
theorem run_append_emptyM{P:Program}{w:World}(base:Nat)(t ty e:TypeId)(i:TypeInfo)(size:Nat)(ht:P.underlying t=some (.slice e))(hi:P.info? e=some i)
 (v:Value) (n:Nat) (xs:List Value) (hown:w.ownsRow base e size v n xs) (a:Option Addr) (c:Nat):
 (Builtin.append_ #[t,t] ty #[v,.slice a 0 c]).run P w=.ok v w:=by
 rcases hown.2 with⟨rfl,rfl⟩|⟨g,cap,cur,rfl,_,_,hnc,_⟩
 ·cases a<;>simp[Builtin.append_,run_underlying ht,sizeOf,typeInfo,hi,Builtin.lenOf,Builtin.firstCells,loadCells,loadCellsFrom]
 ·cases a<;>simp[Builtin.append_,run_underlying ht,sizeOf,typeInfo,hi,Builtin.lenOf,Builtin.firstCells,hnc,storeCells,loadCells,loadCellsFrom]
theorem wpList_append_emptyM{P:Program}{w:World}{ops:Array Oper}{rest:List Oper}{o:Oper}{a:Act}{Q:Exit→Act→World→Prop}(hgd:o.guard=none)(s x:Operand)(t:TypeId)
 (ho:o.op=.call {callee:=.builtin .append,args:=#[s,x],argTypes:=#[t,t]})
 (base:Nat) (e:TypeId) (i:TypeInfo) (size:Nat) (ht:P.underlying t=some (.slice e)) (hi:P.info? e=some i)
 (v:Value) (n:Nat) (xs:List Value) (hs:a.eval s=v) (hown:w.ownsRow base e size v n xs) (ad:Option Addr) (c:Nat) (hx:a.eval x=.slice ad 0 c)
 (h:wpList P ops Q rest (a.put o.dst v) w):wpList P ops Q (o::rest) a w:=by
 refine wpList_plain hgd fun K hK=>?_;have hrun:=run_append_emptyM (P:=P) (w:=w) base t o.type e i size ht hi v n xs hown ad c;unfold Oper.wp;simp[execOp,ho,resolve,invoke,builtin,hs,hx,hrun,Result.andThen];exact hK _ _ h
end
section
open Go.RowKit
def bytI(zs:List Int)(D:Nat→Int)(i:Nat):List Int:=(List.range i).flatMap (fun j=>datB zs (D j))
open Classical in
noncomputable def mrC (zs:List Int) (s:Int) (ds:List Int) (p q:Int):Int:=if faultT zs s ds p q≠0 then 7 else if apartP ((s.toNat+511)/512) (zs.length/512) (wrdP zs) (fun i=>ds.getD i 0) p q then 0 else 21
open Classical in
noncomputable def mrB (zs:List Int) (s:Int) (ds:List Int) (p q:Int):List Int:=if faultT zs s ds p q=0∧apartP ((s.toNat+511)/512) (zs.length/512) (wrdP zs) (fun i=>ds.getD i 0) p q then(bytI zs (datP (wrdP zs) (fun i=>ds.getD i 0) p q) ((s.toNat+511)/512)).take s.toNat else []
theorem fault_two(zs:List Int)(s:Int)(ds:List Int)(p q:Int):faultT zs s ds p q=0∨faultT zs s ds p q=7:=by unfold faultT;split<;>simp
theorem fault_right{zs:List Int}{s:Int}{ds:List Int}{p q:Int}(h:faultT zs s ds p q=0):0≤s∧s≤262144:=by
 unfold faultT at h;split at h
 ·rename_i hr
  have:=hr.2;unfold rightR at this;simp only[Bool.and_eq_true,decide_eq_true_eq] at this;exact this.1
 ·cases h
end
section
open Go.RowKit
section
variable {cnt n:Nat} {W:Int→Nat→Int}
theorem tellG_is0(r:Nat)(p:Int):tellG cnt n W 0 r p=tell0 cnt n r p:=rfl
theorem tellG_is1(r:Nat)(p:Int):tellG cnt n W 1 r p=tell1 cnt n W r p:=by
 unfold tellG tell1;have e:firI (0+1) r=12+r*128:=rfl;rw[e];rfl
theorem tellG_is2(p:Int):tellG cnt n W 2 0 p=tell2 cnt n W p:=by
 unfold tellG tell2;have e:firI (1+1) 0=140:=rfl;rw[e];have e2:(fun k=>tellG cnt n W 1 (belR 1 0 k) (W p k))=fun k=>tell1 cnt n W (1+k) (W p k):=funext fun k=>by
  rw[tellG_is1];have:belR 1 0 k=1+k:=by unfold belR;simp
  rw[this]
 rw[e2]
theorem allT_append:∀(A B:List TL),allT (A++B)=thenT (allT A) (allT B)
 |[],B=>(thenT_nil _).symm
 |a::A,B=>by
  show thenT a (allT (A++B))=_;rw[allT_append A B];show _=thenT (thenT a (allT A)) (allT B);rw[thenT_assoc]
theorem thenT_none(t:TL):thenT t ([],false)=t:=by
 obtain⟨L,b⟩:=t;cases b<;>simp[thenT]
theorem tops_tell(Pv:Nat→Int)(D:Nat→Int)(S X:Int)(hD:∀j,j<12→Pv j=D j)(hS:Pv 12=S)(hX:Pv 13=X):allT (topsT cnt n W Pv)=tellR cnt n W D S X:=by
 unfold topsT;rw[show List.range 14=List.range 12++[12,13] from rfl,List.map_append,allT_append];have e1:(List.range 12).map (topT cnt n W Pv)=(List.range 12).map (fun i=>tell0 cnt n i (D i)):=by
  refine List.map_congr_left (fun j hj=>?_);have hj':=List.mem_range.1 hj;unfold topT topL topR;rw[if_pos hj',if_pos hj',hD j hj',tellG_is0]
 have e2:topT cnt n W Pv 12=tell1 cnt n W 0 S:=by
  unfold topT topL topR;rw[if_neg (by omega),if_pos rfl,if_neg (by omega),hS,tellG_is1]
 have e3:topT cnt n W Pv 13=tell2 cnt n W X:=by
  unfold topT topL topR;rw[if_neg (by omega),if_neg (by omega),if_neg (by omega),hX,tellG_is2]
 rw[e1];show thenT _ (thenT (topT cnt n W Pv 12) (thenT (topT cnt n W Pv 13) ([],false)))=_;rw[e2,e3,thenT_none];rfl
end
theorem ZR_tell(zs:List Int)(s:Int)(ds:List Int)(p q:Int)(hd:ds.length=12):ZR zs s ds p q=tellR ((s.toNat+511)/512) (zs.length/512) (wrdP zs) (fun i=>ds.getD i 0) p q:=
 tops_tell _ _ _ _ (fun j hj=>ptrD hd hj) (ptr12 hd) (ptr13 hd)
theorem right_at{s:Int}{ds:List Int}{p q:Int}(h:rightR s ds p q=true)(k:Nat)(hk:k<14):(ds++[p,q]).getD k 0=0∨lst k<(s+511)/512:=by
 unfold rightR at h;rw[Bool.and_eq_true] at h;have h2:=h.2;unfold allR at h2;rw[List.all_eq_true] at h2;have h3:=h2 k (List.mem_range.2 hk);unfold okAt at h3;simp only[Bool.and_eq_true,Bool.or_eq_true,decide_eq_true_eq] at h3;exact h3.2
theorem right_rootP{s:Int}{ds:List Int}{p q:Int}(hd:ds.length=12)(h:rightR s ds p q=true):RootP ((s.toNat+511)/512) (fun i=>ds.getD i 0) p q:=by
 obtain⟨h0,h1⟩:=right_size h;refine⟨fun i hi=>?_,fun hc=>?_,fun hc=>?_,by omega⟩
 ·by_cases h12:i<12
  ·rcases right_at h i (by omega) with h2|h2
   ·rw[ptrD hd h12] at h2;exact h2
   ·unfold lst at h2;rw[if_neg (by omega)] at h2;omega
  ·show ds.getD i 0=0;rw[List.getD_eq_getElem?_getD,List.getElem?_eq_none (by omega)];rfl
 ·rcases right_at h 12 (by omega) with h2|h2
  ·rw[ptr12 hd] at h2;exact h2
  ·unfold lst at h2;rw[if_neg (by omega)] at h2;omega
 ·rcases right_at h 13 (by omega) with h2|h2
  ·rw[ptr13 hd] at h2;exact h2
  ·unfold lst at h2;rw[if_pos rfl] at h2;omega
theorem fault_ok(zs:List Int)(s:Int)(ds:List Int)(p q:Int):faultT zs s ds p q=if okR zs s ds p q=true then 0 else 7:=by
 unfold faultT okR;simp only[Bool.and_eq_true]
theorem ZR_two{zs:List Int}{s:Int}{ds:List Int}{p q:Int}(hd:ds.length=12)(h:okR zs s ds p q=true):
 (apartP ((s.toNat+511)/512) (zs.length/512) (wrdP zs) (fun i=>ds.getD i 0) p q∧ZR zs s ds p q=(listR ((s.toNat+511)/512) (wrdP zs) (fun i=>ds.getD i 0) p q,false))∨
 (¬apartP ((s.toNat+511)/512) (zs.length/512) (wrdP zs) (fun i=>ds.getD i 0) p q∧(ZR zs s ds p q).2=true):=by
 have hr:rightR s ds p q=true:=by unfold okR at h;rw[Bool.and_eq_true] at h;exact h.2
 rw[ZR_tell zs s ds p q hd];by_cases hap:apartP ((s.toNat+511)/512) (zs.length/512) (wrdP zs) (fun i=>ds.getD i 0) p q
 ·exact .inl ⟨hap,tellR_ok hap⟩
 ·refine .inr ⟨hap,?_⟩;cases hz:(tellR ((s.toNat+511)/512) (zs.length/512) (wrdP zs) (fun i=>ds.getD i 0) p q).2 with
  |true=>rfl
  |false=>exact absurd (tellR_bad (right_rootP hd hr) hz) hap
theorem trC_same{zs:List Int}{s:Int}{ds:List Int}{p q:Int}(hd:ds.length=12):trC zs s ds p q=mrC zs s ds p q:=by
 unfold trC mrC;rw[fault_ok];cases hok:okR zs s ds p q with
 |false=>simp
 |true=>
  rcases ZR_two hd hok with⟨h1,h2⟩|⟨h1,h2⟩
  ·rw[h2,if_neg (by decide),if_neg (by simp),if_neg (by simp),if_pos h1]
  ·rw[if_neg (by decide),if_pos h2,if_neg (by simp),if_neg h1]
theorem fold_same{α β:Type}(f g:β→α→β):∀(L:List α) (b:β),(∀x∈L,∀b,f b x=g b x)→L.foldl f b=L.foldl g b
 |[],_,_=>rfl
 |a::L,b,h=>by
  rw[List.foldl_cons,List.foldl_cons,h a List.mem_cons_self,fold_same f g L _ (fun x hx=>h x (List.mem_cons_of_mem _ hx))]
theorem blk_len{zs:List Int}{p:Int}(h:goodP (zs.length/512) p=true)(h0:p≠0):(blkP zs p).length=512:=by
 have:=good_pos h h0;unfold blkP;rw[List.length_take,List.length_drop];omega
theorem trB_same{zs:List Int}{s:Int}{ds:List Int}{p q:Int}(hd:ds.length=12):trB zs s ds p q=mrB zs s ds p q:=by
 unfold trB mrB;rw[fault_ok];cases hok:okR zs s ds p q with
 |false=>simp
 |true=>
  have hr:rightR s ds p q=true:=by unfold okR at hok;rw[Bool.and_eq_true] at hok;exact hok.2
  obtain⟨hs0,hs1⟩:=right_size hr;rcases ZR_two hd hok with⟨h1,h2⟩|⟨h1,h2⟩
  ·rw[if_pos ⟨rfl,by rw[h2]⟩,if_pos ⟨by simp,h1⟩];obtain⟨cnt,hcnt⟩:∃cnt,cnt=(s.toNat+511)/512:=⟨_,rfl⟩;rw[←hcnt] at h1 h2⊢;have hmem:∀h∈(ZR zs s ds p q).1,GoodH cnt (zs.length/512) h:=fun h hm=>(by rw[hcnt];exact tops_mem hm);have hup:((upX (ZR zs s ds p q).1).map (·.1))=(ZR zs s ds p q).1:=by
    unfold upX;rw[List.map_map];have e:((fun x:TX=>x.1)∘fun h:HG=>(h,Value.nilIface))=id:=rfl;rw[e,List.map_id]
   unfold contP;rw[hup];obtain⟨bk,hbk⟩:∃bk:Int→List Int,bk=fun p=>if(blkP zs p).length=512 then blkP zs p else List.replicate 512 0:=⟨_,rfl⟩;have hb:∀p,(bk p).length=512:=fun p=>by
    rw[hbk];by_cases hl:(blkP zs p).length=512
    ·simp only[hl,if_true]
    ·simp only[hl,if_false,List.length_replicate]
   have hsame:∀p,goodP (zs.length/512) p=true→p≠0→bk p=blkP zs p:=fun p h3 h4=>by
    rw[hbk];simp only[blk_len h3 h4,if_true]
   rw[fold_same (contF (blkP zs)) (contF bk) _ _ (fun x hx b=>by
    have:=hmem x hx;unfold contF;rw[hsame x.2.2 this.1 this.2.1])]
   rw[h2];rw[cont_all (W:=wrdP zs) (D:=fun i=>ds.getD i 0) (S:=p) (X:=q) hb (by omega) s.toNat (by omega) (by omega)];congr 1;unfold bytI;refine flat_same _ _ _ (fun j hj=>?_);have hj':=List.mem_range.1 hj;have hg:=h1.2.2.2.2 j hj';unfold bytP datB;by_cases h0:datP (wrdP zs) (fun i=>ds.getD i 0) p q j=0
   ·rw[if_pos h0,if_pos h0]
   ·rw[if_neg h0,if_neg h0,hsame _ hg h0]
  ·rw[if_neg (fun h=>by rw[h2] at h;cases h.2),if_neg (fun h=>h1 h.2)]
end
end Go.Proofs.YtbhpealglhkodaaGreatDoor
