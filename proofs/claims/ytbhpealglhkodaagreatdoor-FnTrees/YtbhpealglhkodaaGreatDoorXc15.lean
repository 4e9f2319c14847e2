/- The program opens a tree: openTree, readTree, TreeRead -/
import Derived.Test.YtbhpealglhkodaaGreatDoorXc13
import Derived.Test.YtbhpealglhkodaaGreatDoorXc14
namespace Go.Proofs.YtbhpealglhkodaaGreatDoor
set_option linter.all false
set_option maxRecDepth 100000
set_option maxHeartbeats 16000000
section
open Go.RowKit
theorem fold_setT(off:Nat):∀(vs:List Value) (n:Nat) (L:List Value),off+n+vs.length≤L.length→
 ((vs.zipIdx n).foldl (fun(cs:Array Value) (p:Value×Nat)=>cs.setIfInBounds (off+p.2) p.1) L.toArray)=(L.take (off+n)++vs++L.drop (off+n+vs.length)).toArray
 |[],n,L,h=>by simp
 |v::vs,n,L,h=>by
  have hlt:off+n<L.length:=by simp at h;omega
  rw[List.zipIdx_cons,List.foldl_cons];have e:L.toArray.setIfInBounds (off+n) v=(L.take (off+n)++v::L.drop (off+n+1)).toArray:=by
   rw[List.setIfInBounds_toArray,List.set_eq_take_append_cons_drop,if_pos hlt]
  rw[e,fold_setT off vs (n+1) _ (by simp at h⊢;omega)];have hl:(L.take (off+n)).length=off+n:=by rw[List.length_take];omega
  have e1:(L.take (off+n)++v::L.drop (off+n+1)).take (off+(n+1))=L.take (off+n)++[v]:=by
   rw[List.take_append,hl,List.take_of_length_le (by omega),show off+(n+1)-(off+n)=1 by omega];rfl
  have e2:(L.take (off+n)++v::L.drop (off+n+1)).drop (off+(n+1)+vs.length)=L.drop (off+n+(v::vs).length):=by
   rw[List.drop_append,hl,List.drop_of_length_le (by omega),List.nil_append,show off+(n+1)+vs.length-(off+n)=vs.length+1 by omega,List.drop_succ_cons,List.drop_drop];congr 1;simp;omega
  rw[e1,e2];simp
theorem fill_oneT(p:Nat→Option (Nat×Nat))(i off:Nat)(v:Value)(vs L:List Value)(rest:List (Nat×Value))(hp:p i=some (off,vs.length))(hv:v.cells=vs.toArray)(hl:off+vs.length≤L.length):
 Instr.fill p L.toArray ((i,v)::rest)=Instr.fill p (L.take off++vs++L.drop (off+vs.length)).toArray rest:=by
 have hf:(vs.toArray.zipIdx.foldl (fun(cs:Array Value) (p:Value×Nat)=>cs.setIfInBounds (off+p.2) p.1) L.toArray)=(L.take off++vs++L.drop (off+vs.length)).toArray:=by
  rw[←Array.foldl_toList,Array.toList_zipIdx];exact fold_setT off vs 0 L (by omega)
 rw[Instr.fill,hp];simp only[hv];rw[if_neg (by simp;omega)];rw[←hf]
def treT(img:Value)(X:List Int):Array Value:=([img]++X.map (Value.int .i64)).toArray
def placesT:List (Nat×Nat):=[(0,1),(1,15)]
def zeroTT:List Value:=[Value.slice none 0 0]++(List.replicate 15 (0:Int)).map (Value.int .i64)
theorem built_partsT(parts:List (Nat×Value)):Tryz.prog.built 75 parts=Instr.fill (placesT.toArray[·]?) zeroTT.toArray parts:=by kernel_rfl
theorem built_tre(a:Option Addr)(n c:Nat)(X:List Int)(hX:X.length=15):Tryz.prog.built 75 [(0,.slice a n c),(1,.agg (cellsI X))]=some (treT (.slice a n c) X):=by
 rw[built_partsT];rw[fill_oneT _ 0 0 (.slice a n c) [.slice a n c] zeroTT _ rfl rfl (by simp[zeroTT])];have e1:zeroTT.take 0++[Value.slice a n c]++zeroTT.drop (0+[Value.slice a n c].length)=[Value.slice a n c]++(List.replicate 15 (0:Int)).map (Value.int .i64):=rfl;rw[e1];rw[fill_oneT _ 1 1 (.agg (cellsI X)) (X.map (Value.int .i64)) _ _ (by rw[List.length_map,hX];rfl) rfl (by simp[hX])];have e2:([Value.slice a n c]++(List.replicate 15 (0:Int)).map (Value.int .i64)).take 1++X.map (Value.int .i64)++([Value.slice a n c]++(List.replicate 15 (0:Int)).map (Value.int .i64)).drop (1+(X.map (Value.int .i64)).length)=[Value.slice a n c]++X.map (Value.int .i64):=by
  rw[List.length_map,hX];simp
 rw[e2,Instr.fill];rfl
theorem run_buildT{P:Program}{o:Oper}{a:Act}{w:World}(t:TypeId)(parts:Array (Nat×Operand))(ho:o.op=.build t parts)(cells:Array Value)(hf:P.built t (parts.map fun(i,x)=>(i,a.eval x)).toList=some cells):(execOp a.eval o).run P w=.ok (.value (.agg cells)) w:=by
 unfold execOp;simp only[ho,Sem.run_bind,run_build w t _ cells hf,Result.andThen_ok];rfl
theorem allocTrT(w:World):(Instr.alloc 75 true (.tuple #[])).run Tryz.prog w=.ok (.pointer (some ⟨w.heap.size,0,none⟩)) (w.alloc (.cells zeroTT.toArray 75)):=by kernel_rfl
theorem letTr:∃Z:Array Value,Z.size=16∧∀(ρ:Operand→Value) (o:Oper) (w:World),o.op=.alloc 75→(execOp ρ o).run Tryz.prog w=.ok (.value (.pointer (some ⟨w.heap.size,0,none⟩))) (w.alloc (.cells Z 75)):=
 ⟨zeroTT.toArray,rfl,fun ρ o w ho=>by simp[execOp,ho,allocTrT,Result.andThen]⟩
theorem treT_one{a:Option Addr}{n c:Nat}(X:List Int):(treT (.slice a n c) X).all (·.oneCell')=true:=by simp[treT,Value.oneCell']
theorem treT_size(img:Value)(X:List Int)(hX:X.length=15):(treT img X).size=16:=by simp[treT,hX]
theorem openTree_any(img:Value)(zs:List Int)(s:Int)(ds:List Int)(p q:Int)(w:World)(h:Rd .u8 w img zs)(hz:zs.length≤1048576)(hd:ds.length=12):
 Calls Tryz.prog 52 #[img,.agg (cellsI (rootI s ds p q))] w fun e w'=>∃ev,e=.returned (.tuple #[.agg (treT img (rootI s ds p q)),ev])∧FaultIs w' 0 (szOk zs.length&&rightR s ds p q) ev 7∧Below w.heap.size w w':=by
 obtain⟨sa,sc,rfl⟩:=rd_shapeT h;have HR:=hide (And.intro h hd);have hRl:=rootI_len s ds p q hd;have HBu:=hide (built_tre sa zs.length sc (rootI s ds p q) hRl);have HZ:=hide (show(cellsI (rootI s ds p q)).size=15 from by rw[cellsI_size];exact hRl);have HTs:=hide (treT_size (.slice sa zs.length sc) _ hRl);clear h hd hRl;go_enter Tryz.func52,Tryz.ntmps52;go_upto_region 2 with fail;generalize hW1:World.alloc _ (Obj.cells #[.int .i64 7,.nilIface] 136)=W1;have HW:=hide (show ∃Z0:Array Value,Z0.size=16∧Blk W1 w.heap.size (cellsI (rootI s ds p q)) 27∧Blk W1 (w.heap.size+1) Z0 75∧Ck W1 (w.heap.size+2) (w.heap.size+3) 7 true∧Below w.heap.size w W1∧W1.heap.size=w.heap.size+3 from by
  rw[←hW1];refine⟨zeroTT.toArray,rfl,((Blk.new w _ _).alloc _).alloc _,?_,?_,?_,?_⟩
  ·have h:=Blk.new (w.alloc (.cells (cellsI (rootI s ds p q)) 27)) zeroTT.toArray 75;rw[World.size_alloc] at h;exact h.alloc _
  ·have h:=Ck.fresh ((w.alloc (.cells (cellsI (rootI s ds p q)) 27)).alloc (.cells zeroTT.toArray 75)) 7 136;rw[World.size_alloc,World.size_alloc] at h;exact h
  ·exact(((Below.refl _ _).alloc (Nat.le_refl _) _).alloc (by simp) _).alloc (by simp;omega) _
  ·simp)
 clear hW1;obtain⟨Z0,hZ0,k0,k1,ck,bb,hs1⟩:=HW.out;have H1:=hide (And.intro hZ0 (And.intro k0 (And.intro k1 (And.intro ck (And.intro bb hs1)))));clear HW hZ0 k0 k1 ck bb hs1;go_upto_region 3 with(first
  |(go_at_call 77;refine(rightInSize_any _ zs _ (HR.out.1.below H1.out.2.2.2.2.1) (by omega)).mono ?_;rintro e w9 ⟨rfl,hw9⟩;rw[←hw9];clear hw9)
  |(go_at_call 76;refine(need_any (w.heap.size+2) (w.heap.size+3) _ 7 true (szOk zs.length) _ H1.out.2.2.2.1 (by omega) (by rw[H1.out.2.2.2.2.2];omega)).mono ?_;rintro e w2 ⟨rfl,ck2,t2⟩;rw[Bool.true_and] at ck2;have H2:=hide (And.intro ck2 t2);clear ck2 t2))
 have HB2:=hide (H2.out.2.under H1.out.2.2.2.2.1 (by omega) H1.out.2.2.2.2.1.size);have hs2:w.heap.size+3≤w2.heap.size:=by have:=H2.out.2.1.size;rw[H1.out.2.2.2.2.2] at this;exact this
 have K0:=hide (show Blk w2 w.heap.size (cellsI (rootI s ds p q)) 27 from(H2.out.2.1.block _ H1.out.2.1.lt (by simp)).trans H1.out.2.1);have K1:=hide (show Blk w2 (w.heap.size+1) Z0 75 from(H2.out.2.1.block _ H1.out.2.2.1.lt (by simp)).trans H1.out.2.2.1);go_upto_region 4 with(first
  |(refine wpList_load_row rfl 27 _ rfl w.heap.size rfl 27 (cellsI (rootI s ds p q)) (0,0) _ K0.out Tryz.underlying27 rfl (by rw[HZ.out];exact info15) ?_)
  |(go_at_call 79;refine(rootFault_any s ds p q 7 _ HR.out.2).mono ?_;rintro e w3 ⟨ev3,rfl,f3,b3⟩;have H3:=hide (And.intro f3 b3);clear f3 b3)
  |(go_at_call 78;refine(inside_both (w.heap.size+2) (w.heap.size+3) _ 7 (szOk zs.length) (rightR s ds p q) ev3 _ (H2.out.1.below H3.out.2) (H3.out.1.mono hs2) (by omega) (Nat.le_trans hs2 H3.out.2.size)).mono ?_;rintro e w4 ⟨rfl,ck4,t4⟩;have H4:=hide (And.intro ck4 t4);clear ck4 t4))
 have hs3:=H3.out.2.size;have HB4:=hide (H4.out.2.under (HB2.out.trans (H3.out.2.mono HB2.out.size)) (by omega) (Nat.le_trans HB2.out.size hs3));have L0:Blk w4 w.heap.size (cellsI (rootI s ds p q)) 27:=(H4.out.2.1.block _ (Nat.lt_of_lt_of_le K0.out.lt hs3) (by simp)).trans (K0.out.below H3.out.2 K0.out.lt);have L1:=hide (show Blk w4 (w.heap.size+1) Z0 75 from(H4.out.2.1.block _ (Nat.lt_of_lt_of_le K1.out.lt hs3) (by simp)).trans (K1.out.below H3.out.2 K1.out.lt));obtain⟨ev,ce,hfe⟩:=H4.out.1.fault;have HFe:=hide hfe;clear hfe;refine wp_region_noPanic ?_;refine wp_region_held_drew (S:=fun w'=>Blk w' w.heap.size (cellsI (rootI s ds p q)) 27∧w'.cell? ⟨w.heap.size+2,1,none⟩=some ev) (by kernel_rfl) ⟨L0,ce⟩ (fun hH=>?_);refine wpAnyH_take (i:=0) (oi:=_) (v:=.slice sa zs.length sc) rfl (by kernel_rfl) (by kernel_rfl) (by kernel_rfl) (fun _ _ _ h=>h) (Or.inl ⟨by rfl,fun w' hw'=>by go_simp⟩) hH ?_;try simp only[Act.put,List.getElem_toArray,List.getElem_cons_zero,List.getElem_cons_succ,List.setIfInBounds_toArray,List.set_cons_zero,List.set_cons_succ]
 refine wpAnyH_take (i:=1) (oi:=_) (v:=.agg (cellsI (rootI s ds p q))) rfl (by kernel_rfl) (by kernel_rfl) (by kernel_rfl) (fun _ _ _ h=>h) (Or.inl ⟨by rfl,fun w' hw'=>run_load_rowT (a:=_) 27 (.tmp 3) rfl w.heap.size rfl 27 _ (0,0) _ hw'.1 Tryz.underlying27 rfl (by rw[HZ.out];exact info15)⟩) hH ?_;try simp only[Act.put,List.getElem_toArray,List.getElem_cons_zero,List.getElem_cons_succ,List.setIfInBounds_toArray,List.set_cons_zero,List.set_cons_succ]
 refine wpAnyH_take (i:=2) (oi:=_) (v:=.agg (treT (.slice sa zs.length sc) (rootI s ds p q))) rfl (by kernel_rfl) (by kernel_rfl) (by kernel_rfl) (fun _ _ _ h=>h) (Or.inl ⟨by rfl,fun w' hw'=>run_buildT 75 _ rfl _ (by simp only[List.map_toArray,List.map_cons,List.map_nil];exact HBu.out)⟩) hH ?_;try simp only[Act.put,List.getElem_toArray,List.getElem_cons_zero,List.getElem_cons_succ,List.setIfInBounds_toArray,List.set_cons_zero,List.set_cons_succ]
 refine wpAnyH_take (i:=3) (oi:=_) (v:=.pointer (some ⟨w.heap.size+2,1,none⟩)) rfl (by kernel_rfl) (by kernel_rfl) (by kernel_rfl) (fun _ _ _ h=>h) (Or.inl ⟨by rfl,fun w' hw'=>by go_simp⟩) hH ?_;try simp only[Act.put,List.getElem_toArray,List.getElem_cons_zero,List.getElem_cons_succ,List.setIfInBounds_toArray,List.set_cons_zero,List.set_cons_succ]
 refine wpAnyH_take (i:=4) (oi:=_) (v:=ev) rfl (by kernel_rfl) (by kernel_rfl) (by kernel_rfl) (fun _ _ _ h=>h) (Or.inl ⟨by rfl,fun w' hw'=>by have c9:=hw'.2;go_simp⟩) hH ?_;try simp only[Act.put,List.getElem_toArray,List.getElem_cons_zero,List.getElem_cons_succ,List.setIfInBounds_toArray,List.set_cons_zero,List.set_cons_succ]
 have D1:Blk (World.drew w4) (w.heap.size+1) Z0 75:=L1.out;have hgr:(World.drew w4).grownBy ((World.drew w4).setRow (w.heap.size+1) (treT (.slice sa zs.length sc) (rootI s ds p q))) (some (w.heap.size+1)):=⟨rfl,rfl,rfl,by simp[World.setRow],fun k hk hne=>by simp[World.setRow,Array.getElem?_modify,show ¬w.heap.size+1=k from fun e=>hne (by rw[e])]⟩;refine wpAnyH_ready (rs:=[5]) (by kernel_rfl) (by simp) ?_;refine AllReadyH.cons (o:=_) rfl (fun K hK=>?_) AllReadyH.nil;rw[if_pos (by rfl)];refine wp_store_row 75 (.tmp 4) (.tmp 16) rfl (w.heap.size+1) (treT (.slice sa zs.length sc) (rootI s ds p q)) rfl rfl 75 Z0 D1 (by rw[HTs.out];exact infoTr) (by rw[HTs.out];exact H1.out.1) (treT_one _) ?_;have hckl:=H4.out.1.lt;refine hK.out _ _ ⟨(hgr.block _ L0.lt (by simp)).trans L0,(World.cell?_of_block (a:=⟨w.heap.size+2,1,none⟩) (hgr.block _ (show w.heap.size+2<w4.heap.size from hckl) (by simp))).trans ce⟩ (fun hH2=>?_);clear hK K;try simp only[Act.put,List.getElem_toArray,List.getElem_cons_zero,List.getElem_cons_succ,List.setIfInBounds_toArray,List.set_cons_zero,List.set_cons_succ]
 refine wpAnyH_take (i:=6) (oi:=_) (v:=ev) rfl (by kernel_rfl) (by kernel_rfl) (by kernel_rfl) (fun _ _ _ h=>h) (Or.inl ⟨by rfl,fun w' hw'=>by go_simp⟩) hH2 ?_;try simp only[Act.put,List.getElem_toArray,List.getElem_cons_zero,List.getElem_cons_succ,List.setIfInBounds_toArray,List.set_cons_zero,List.set_cons_succ]
 refine wpAnyH_done (by kernel_rfl) (NoPanic.normal ?_) _;go_wp2;refine bodyPost_ret (v:=.tuple #[.agg (treT (.slice sa zs.length sc) (rootI s ds p q)),ev]) ?_ rfl ⟨ev,rfl,?_,below_setRow (HB4.out.drew) (by omega) _⟩
 ·exact results_row_tmp rfl _ _ (w.heap.size+1) 75 _ (0,0) _ _ rfl rfl (D1.row _) Tryz.underlying75 rfl (by rw[HTs.out];exact infoTr)
 ·rcases HFe.out with⟨h1,h2⟩|⟨h1,m,h2⟩
  ·exact .inl ⟨h1,h2⟩
  ·refine .inr ⟨h1,m,Flt.mono (lo:=w.heap.size+3) (Nat.zero_le _) (Flt.keep (fun b o u hb hc=>?_) h2)⟩;have hlt:=cell_lt hc;exact(World.cell?_of_block (a:=⟨b,o,none⟩) (hgr.block b (show b<w4.heap.size from hlt) (by simp;omega))).trans hc
theorem own_shape5{w:World}{base:Nat}{e:TypeId}{v:Value}{n:Nat}{xs:List Value}(h:w.ownsRow base e 1 v n xs):∃a cap,v=.slice a n cap:=by
 rcases h.2 with⟨rfl,rfl⟩|⟨g,cap,_,rfl,_⟩
 ·exact⟨_,_,rfl⟩
 ·exact⟨_,_,rfl⟩
theorem toldB_nil(w:World)(a:Option Addr)(len cap:Nat):
 Calls Tryz.prog 50 #[.slice a len cap,.nilIface] w fun e w'=>e=.returned (.tuple #[.slice a len cap,.int .i64 0])∧w'=w:=by
 go_enter Tryz.func50,Tryz.ntmps50;go_wp2;go_ret2;exact⟨rfl,rfl⟩
theorem toldB_bad(w:World)(a:Option Addr)(len cap m lo:Nat)(ev:Value)(code:Int)(hf:Flt w lo m ev code)(hg:ErrT w):
 Calls Tryz.prog 50 #[.slice a len cap,ev] w fun e w'=>e=.returned (.tuple #[.slice none 0 0,.int .i64 code])∧Below w.heap.size w w':=by
 obtain⟨t',x',rfl⟩:=hf.iface;have H4:=hide hf;have HG:=hide hg;clear hf hg;go_enter Tryz.func50,Tryz.ntmps50;go_wp2_with (go_at_call 36;refine(codeOf_any m _ code _ _ H4.out HG.out).mono ?_;rintro e w3 ⟨rfl,hb3⟩);go_ret2;exact⟨rfl,hb3⟩
def ZR(zs:List Int)(s:Int)(ds:List Int)(p q:Int):TL:=allT (topsT ((s.toNat+511)/512) (zs.length/512) (wrdP zs) (fun j=>(ds++[p,q]).getD j 0))
def okR(zs:List Int)(s:Int)(ds:List Int)(p q:Int):Bool:=szOk zs.length&&rightR s ds p q
def trC(zs:List Int)(s:Int)(ds:List Int)(p q:Int):Int:=if okR zs s ds p q=false then 7 else if(ZR zs s ds p q).2=true then 21 else 0
def trB(zs:List Int)(s:Int)(ds:List Int)(p q:Int):List Int:=if okR zs s ds p q=true∧(ZR zs s ds p q).2=false then contP zs s.toNat (upX (ZR zs s ds p q).1) else []
theorem right_size{s:Int}{ds:List Int}{p q:Int}(h:rightR s ds p q=true):0≤s∧s≤262144:=by
 unfold rightR at h;simp only[Bool.and_eq_true,decide_eq_true_eq] at h;exact h.1
theorem treT_0(img:Value)(X:List Int):(treT img X)[0]?=some img:=by simp[treT]
theorem treT_k(img:Value)(X:List Int)(k:Nat)(h:k<X.length):(treT img X)[1+k]?=some (.int .i64 (X.getD k 0)):=by
 unfold treT;rw[List.getElem?_toArray,List.getElem?_append_right (by simp)];simp[List.getD,h]
theorem readTree_any(img:Value)(zs:List Int)(s:Int)(ds:List Int)(p q:Int)(w:World)(h:Rd .u8 w img zs)(hz:zs.length≤1048576)(hbd:∀z∈zs,0≤z∧z<256)(hd:ds.length=12):
 Calls Tryz.prog 51 #[img,.agg (cellsI (rootI s ds p q))] w fun e w'=>∃a n c ev,e=.returned (.tuple #[.slice a n c,ev])∧((trC zs s ds p q=0∧ev=.nilIface∧w'.ownsRow w.heap.size 5 1 (.slice a n c) (trB zs s ds p q).length ((trB zs s ds p q).map (Value.int .u8)))∨(trC zs s ds p q≠0∧∃m,Flt w' 0 m ev (trC zs s ds p q)))∧Below w.heap.size w w':=by
 have HR:=hide (And.intro h (And.intro hbd hd));have hRl:=rootI_len s ds p q hd;have HZ:=hide (show(cellsI (rootI s ds p q)).size=15 from by rw[cellsI_size];exact hRl);obtain⟨sa,sc,rfl⟩:=rd_shapeT h;have HTs:=hide (treT_size (.slice sa zs.length sc) _ hRl);obtain⟨Z1,hZ1,hAl⟩:=letTr;have HAl:=hide (And.intro hZ1 hAl);have HRl:=hide hRl;clear h hbd hd hRl hZ1 hAl;have b0:Below w.heap.size w (w.alloc (.cells (cellsI (rootI s ds p q)) 27)):=(Below.refl _ _).alloc (Nat.le_refl _) _;have HB0:=hide b0;clear b0;go_enter Tryz.func51,Tryz.ntmps51;go_upto_region 2 with(first
  |(refine wpList_load_row rfl 27 _ rfl w.heap.size rfl 27 (cellsI (rootI s ds p q)) (0,0) _ (Blk.new w _ _) Tryz.underlying27 rfl (by rw[HZ.out];exact info15) ?_)
  |(go_at_call 52;refine(openTree_any _ zs s ds p q _ (HR.out.1.below HB0.out) hz HR.out.2.2).mono ?_;rintro e w2 ⟨ev,rfl,f2,b2⟩;have H2:=hide (And.intro f2 b2);clear f2 b2)
  |(refine Great.wpList_allocTo rfl (some 6) rfl (.pointer (some ⟨w2.heap.size,0,none⟩)) (.cells Z1 75) (HAl.out.2 _ _ _ rfl) ?_)
  |(refine wpList_store_row rfl 75 _ _ rfl w2.heap.size (treT (.slice sa zs.length sc) (rootI s ds p q)) rfl rfl 75 Z1 (Blk.new w2 _ _) (by rw[HTs.out];exact infoTr) (by rw[HTs.out];exact HAl.out.1) (treT_one _) ?_))
 obtain⟨W3,hW3⟩:∃W3,W3=(w2.alloc (.cells Z1 75)).setRow w2.heap.size (treT (.slice sa zs.length sc) (rootI s ds p q)):=⟨_,rfl⟩;have K3:=hide (show Blk W3 w2.heap.size (treT (.slice sa zs.length sc) (rootI s ds p q)) 75 from by rw[hW3];exact(Blk.new w2 Z1 75).row _);have B3:=hide (show Below w2.heap.size w2 W3 from by rw[hW3];exact below_setRow ((Below.refl _ _).alloc (Nat.le_refl _) _) (Nat.le_refl _) _);rw[←hW3];clear hW3;have BW:=hide (show Below w.heap.size w W3 from HB0.out.trans ((H2.out.2.trans (B3.out.mono H2.out.2.size)).mono HB0.out.size));cases hok:szOk zs.length&&rightR s ds p q with
 |false=>
  have hf:=H2.out.1;rw[hok] at hf;rcases hf with⟨hf,_⟩|⟨_,m,hf⟩
  ·cases hf
  obtain⟨t',x',rfl⟩:=hf.iface;have HF:=hide (hf.below B3.out);have HC:=hide (show trC zs s ds p q=7 by unfold trC okR;rw[hok,if_pos rfl]);clear hf hok;go_wp2;go_ret2;exact⟨_,_,_,_,rfl,.inr ⟨by rw[HC.out];decide,m,by rw[HC.out];exact HF.out⟩,BW.out⟩
 |true=>
  have hf:=H2.out.1;rw[hok] at hf;rcases hf with⟨_,rfl⟩|⟨hf,_⟩;rotate_left
  ·cases hf
  have hr:rightR s ds p q=true:=by rw[Bool.and_eq_true] at hok;exact hok.2
  obtain⟨hs0,hs1⟩:=right_size hr;obtain⟨sz,rfl⟩:∃sz:Nat,s=(sz:Int):=⟨s.toNat,by omega⟩;have HOk:=hide (show okR zs (sz:Int) ds p q=true from hok);clear hok hr hs0;have hRl:=HRl.out;have hX:=fun k hk=>treT_k (.slice sa zs.length sc) (rootI (sz:Int) ds p q) k hk;have HX:=hide (show(treT (.slice sa zs.length sc) (rootI (sz:Int) ds p q))[1]?=some (.int .i64 (sz:Int))∧∀j,j<14→(treT (.slice sa zs.length sc) (rootI (sz:Int) ds p q))[2+j]?=some (.int .i64 ((ds++[p,q]).getD j 0)) from by
   refine⟨(hX 0 (by omega)).trans (by simp[rootI]),fun j hj=>?_⟩;have:=hX (j+1) (by omega);rw[show 1+(j+1)=2+j by omega] at this;rw[this];simp[rootI,List.getD])
  clear hX hRl;go_wp2_with (first
   |(refine wpList_load_row rfl 75 _ rfl w2.heap.size rfl 75 (treT (.slice sa zs.length sc) (rootI (sz:Int) ds p q)) (0,0) _ K3.out Tryz.underlying75 rfl (by rw[HTs.out];exact infoTr) ?_)
   |(go_at_call 75;refine(content_any ((sz+511)/512) sz zs _ (fun j=>(ds++[p,q]).getD j 0) _ _ (ZR zs (sz:Int) ds p q) (treT_0 _ _) HX.out.1 HX.out.2 HTs.out (HR.out.1.below BW.out) hz HR.out.2.1 (by omega) rfl rfl).mono ?_;rintro e w5 ⟨v,ev,rfl,h5,b5⟩;have H5:=hide (And.intro h5 b5);clear h5 b5))
  rcases H5.out.1 with⟨hZ0,rfl,o5⟩|⟨hZ1,rfl,m,f5⟩
  ·obtain⟨va,vc,rfl⟩:=own_shape5 o5;have HO:=hide (And.intro hZ0 (own_mono o5 BW.out.size));clear o5 hZ0;go_ret2;have e1:trB zs (sz:Int) ds p q=contP zs sz (upX (ZR zs (sz:Int) ds p q).1):=(by unfold trB;rw[if_pos ⟨HOk.out,HO.out.1⟩];rfl);have hl:(trB zs (sz:Int) ds p q).length=sz:=(by rw[e1];have:=HO.out.2.1;simpa using this);refine⟨_,_,_,_,rfl,.inl ⟨by unfold trC;rw[HOk.out,HO.out.1];simp,rfl,?_⟩,BW.out.trans (H5.out.2.mono BW.out.size)⟩;rw[hl,e1];exact HO.out.2
  ·have HC:=hide (show trC zs (sz:Int) ds p q=21 by unfold trC;rw[HOk.out,hZ1];simp);have HF:=hide f5;clear f5 hZ1;go_ret2;exact⟨_,_,_,_,rfl,.inr ⟨by rw[HC.out];decide,m,by rw[HC.out];exact HF.out⟩,BW.out.trans (H5.out.2.mono BW.out.size)⟩
theorem implTR_any(img:Value)(zs:List Int)(s:Int)(ds:List Int)(p q:Int)(w:World)(h:Rd .u8 w img zs)(hz:zs.length≤1048576)(hbd:∀z∈zs,0≤z∧z<256)(hd:ds.length=12)(hg:ErrT w):
 Calls Tryz.prog 28 #[img,.agg (cellsI (rootI s ds p q))] w fun e w'=>∃v,e=.returned (.tuple #[v,.int .i64 (trC zs s ds p q)])∧w'.ownsRow w.heap.size 5 1 v (trB zs s ds p q).length ((trB zs s ds p q).map (Value.int .u8))∧Below w.heap.size w w':=by
 have HR:=hide (And.intro h (And.intro hbd (And.intro hd hg)));have HZ:=hide (show(cellsI (rootI s ds p q)).size=15 from by rw[cellsI_size];exact rootI_len s ds p q hd);obtain⟨sa,sc,rfl⟩:=rd_shapeT h;clear h hbd hd hg;have HB0:=hide (show Below w.heap.size w (w.alloc (.cells (cellsI (rootI s ds p q)) 27)) from(Below.refl _ _).alloc (Nat.le_refl _) _);go_enter Tryz.func28,Tryz.ntmps28;go_wp2_with (first
  |(refine wpList_load_row rfl 27 _ rfl w.heap.size rfl 27 (cellsI (rootI s ds p q)) (0,0) _ (Blk.new w _ _) Tryz.underlying27 rfl (by rw[HZ.out];exact info15) ?_)
  |(go_at_call 51;refine(readTree_any _ zs s ds p q _ (HR.out.1.below HB0.out) hz HR.out.2.1 HR.out.2.2.1).mono ?_;rintro e w2 ⟨a2,n2,c2,ev,rfl,h2,b2⟩;have H2:=hide (And.intro h2 b2);clear h2 b2)
  |(go_at_call 50;fail))
 have BW:=hide (show Below w.heap.size w w2 from HB0.out.trans (H2.out.2.mono HB0.out.size));rcases H2.out.1 with⟨hc,rfl,o2⟩|⟨hc,m,f2⟩
 ·have HO:=hide (And.intro hc (own_mono o2 HB0.out.size));clear o2 hc;refine(toldB_nil w2 a2 n2 c2).mono ?_;rintro e w3 ⟨rfl,rfl⟩;go_wp2;go_ret2;exact⟨_,by rw[HO.out.1];rfl,HO.out.2,BW.out⟩
 ·have HF:=hide (And.intro hc f2);clear hc f2;refine(toldB_bad w2 a2 n2 c2 m 0 ev _ HF.out.2 (HR.out.2.2.2.below BW.out)).mono ?_;rintro e w3 ⟨rfl,b3⟩;have HB3:=hide b3;clear b3;go_wp2;go_ret2;have e1:trB zs s ds p q=[]:=by
   unfold trB;have hc:=HF.out.1;unfold trC at hc;split
   ·rename_i h
    rw[if_neg (by rw[h.1];decide),if_neg (by rw[h.2];decide)] at hc;exact absurd rfl hc
   ·rfl
  exact⟨_,rfl,by rw[e1];exact World.ownsRow_nil _ _ _ _,BW.out.trans (HB3.out.mono BW.out.size)⟩
theorem infoP3:(Tryz.prog.info? 131).map (·.size)=some 3:=by kernel_rfl
def placeV(l o i c:Int):Value:=.tuple #[.agg #[.int .i64 l,.int .i64 o,.int .i64 i],.int .i64 c]
theorem specP_0(x:Nat)(w:World)(h:x<12):
 Calls Tryz.prog 74 #[.int .i64 x] w fun e w'=>e=.returned (placeV 0 0 x 0)∧Below w.heap.size w w':=by
 have HB:=hide (show ∀C,Below w.heap.size w (w.alloc C) from fun C=>(Below.refl _ _).alloc (Nat.le_refl _) _);go_enter Tryz.func74,Tryz.ntmps74;go_wp2;refine bodyPost_ret (v:=placeV 0 0 x 0) ?_ rfl ⟨rfl,HB.out _⟩;exact results_row_tmp rfl _ _ w.heap.size 131 _ (0,0) _ _ rfl rfl (heap_alloc_new w _) Tryz.underlying131 rfl infoP3
theorem specP_1(x:Nat)(w:World)(h:x<128):
 Calls Tryz.prog 74 #[.int .i64 ((x+12:Nat):Int)] w fun e w'=>e=.returned (placeV 1 0 x 0)∧Below w.heap.size w w':=by
 have HB:=hide (show ∀C,Below w.heap.size w (w.alloc C) from fun C=>(Below.refl _ _).alloc (Nat.le_refl _) _);go_enter Tryz.func74,Tryz.ntmps74;go_wp2;refine bodyPost_ret (v:=placeV 1 0 x 0) ?_ rfl ⟨rfl,HB.out _⟩;exact results_row_tmp rfl _ _ w.heap.size 131 _ (0,0) _ _ rfl rfl (heap_alloc_new w _) Tryz.underlying131 rfl infoP3
theorem specP_2(x:Nat)(w:World)(h:x<372):
 Calls Tryz.prog 74 #[.int .i64 ((x+140:Nat):Int)] w fun e w'=>e=.returned (placeV 2 ((x/128:Nat):Int) ((x%128:Nat):Int) 0)∧Below w.heap.size w w':=by
 have HB:=hide (show ∀C,Below w.heap.size w (w.alloc C) from fun C=>(Below.refl _ _).alloc (Nat.le_refl _) _);go_enter Tryz.func74,Tryz.ntmps74;go_wp2;have e1:(x:Int)/128=((x/128:Nat):Int):=by omega
 have e2:(x:Int)%128=((x%128:Nat):Int):=by omega
 rw[e1,e2];refine bodyPost_ret (v:=placeV 2 ((x/128:Nat):Int) ((x%128:Nat):Int) 0) ?_ rfl ⟨rfl,HB.out _⟩;exact results_row_tmp rfl _ _ w.heap.size 131 _ (0,0) _ _ rfl rfl (heap_alloc_new w _) Tryz.underlying131 rfl infoP3
end
end Go.Proofs.YtbhpealglhkodaaGreatDoor
