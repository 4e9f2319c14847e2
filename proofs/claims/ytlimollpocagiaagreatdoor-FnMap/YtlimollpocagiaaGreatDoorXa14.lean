/- The program opens a tree: openTree, readTree, TreeRead -/
import Derived.Test.YtlimollpocagiaaGreatDoorXa12
import Derived.Test.YtlimollpocagiaaGreatDoorXa13
namespace Go.Proofs.YtlimollpocagiaaGreatDoor
open Go.Proofs.Tryz
open _root_.List (replicate getD)
open World (size_alloc drew setRow)
set_option linter.all false
set_option maxRecDepth 100000
set_option maxHeartbeats 16000000
section
open Go.RowKit
theorem uh(off:Nat):∀(vs:List Value) (n:Nat) (L:List Value),off+n+vs.length≤L.length→
 ((vs.zipIdx n).foldl (fun(cs:Array Value) (p:Value×Nat)=>cs.setIfInBounds (off+p.2) p.1) L.toArray)=(L.take (off+n)++vs++L.drop (off+n+vs.length)).toArray
 |[],n,L,h=>by simp
 |v::vs,n,L,h=>by
  have hlt:off+n<L.length:=by simp at h;omega
  rw[List.zipIdx_cons,List.foldl_cons];have e:L.toArray.setIfInBounds (off+n) v=(L.take (off+n)++v::L.drop (off+n+1)).toArray:=by
   rw[List.setIfInBounds_toArray,List.set_eq_take_append_cons_drop,if_pos hlt]
  rw[e,uh off vs (n+1) _ (by simp at h⊢;omega)];have hl:(L.take (off+n)).length=off+n:=by rw[List.length_take];omega
  have e1:(L.take (off+n)++v::L.drop (off+n+1)).take (off+(n+1))=L.take (off+n)++[v]:=by
   rw[List.take_append,hl,List.take_of_length_le (by omega),show off+(n+1)-(off+n)=1 by omega];rfl
  have e2:(L.take (off+n)++v::L.drop (off+n+1)).drop (off+(n+1)+vs.length)=L.drop (off+n+(v::vs).length):=by
   rw[List.drop_append,hl,List.drop_of_length_le (by omega),List.nil_append,show off+(n+1)+vs.length-(off+n)=vs.length+1 by omega,List.drop_succ_cons,List.drop_drop];congr 1;simp;omega
  rw[e1,e2];simp
theorem uj(p:Nat→Option (Nat×Nat))(i off:Nat)(v:Value)(vs L:List Value)(rest:List (Nat×Value))(hp:p i=some (off,vs.length))(hv:v.cells=vs.toArray)(hl:off+vs.length≤L.length):
 Instr.fill p L.toArray ((i,v)::rest)=Instr.fill p (L.take off++vs++L.drop (off+vs.length)).toArray rest:=by
 have hf:(vs.toArray.zipIdx.foldl (fun(cs:Array Value) (p:Value×Nat)=>cs.setIfInBounds (off+p.2) p.1) L.toArray)=(L.take off++vs++L.drop (off+vs.length)).toArray:=by
  rw[←Array.foldl_toList,Array.toList_zipIdx];exact uh off vs 0 L (by omega)
 rw[Instr.fill,hp];simp only[hv];rw[if_neg (by simp;omega)];rw[←hf]
def de(img:Value)(X:List Int):Array Value:=([img]++X.map (Value.int .i64)).toArray
def Ai:List (Nat×Nat):=[(0,1),(1,15)]
def gY:List Value:=[Value.slice none 0 0]++(replicate 15 (0:Int)).map (Value.int .i64)
theorem Aj(parts:List (Nat×Value)):prog.built 87 parts=Instr.fill (Ai.toArray[·]?) gY.toArray parts:=by kernel_rfl
theorem uk(a:Option Addr)(n c:Nat)(X:List Int)(hX:X.length=15):prog.built 87 [(0,.slice a n c),(1,.agg (aB X))]=some (de (.slice a n c) X):=by
 rw[Aj];rw[uj _ 0 0 (.slice a n c) [.slice a n c] gY _ rfl rfl (by simp[gY])];have e1:gY.take 0++[Value.slice a n c]++gY.drop (0+[Value.slice a n c].length)=[Value.slice a n c]++(replicate 15 (0:Int)).map (Value.int .i64):=rfl;rw[e1];rw[uj _ 1 1 (.agg (aB X)) (X.map (Value.int .i64)) _ _ (by rw[List.length_map,hX];rfl) rfl (by simp[hX])];have e2:([Value.slice a n c]++(replicate 15 (0:Int)).map (Value.int .i64)).take 1++X.map (Value.int .i64)++([Value.slice a n c]++(replicate 15 (0:Int)).map (Value.int .i64)).drop (1+(X.map (Value.int .i64)).length)=[Value.slice a n c]++X.map (Value.int .i64):=by
  rw[List.length_map,hX];simp
 rw[e2,Instr.fill];rfl
theorem um{P:Program}{o:Oper}{a:Act}{w:World}(t:TypeId)(parts:Array (Nat×Operand))(ho:o.op=.build t parts)(cells:Array Value)(hf:P.built t (parts.map fun(i,x)=>(i,a.eval x)).toList=some cells):(execOp a.eval o).run P w=.ok (.value (.agg cells)) w:=by
 unfold execOp;simp only[ho,Sem.run_bind,run_build w t _ cells hf,Result.andThen_ok];rfl
theorem Ak(w:World):(Instr.alloc 87 true (.tuple #[])).run prog w=.ok (.pointer (some ⟨w.heap.size,0,none⟩)) (w.alloc (.cells gY.toArray 87)):=by kernel_rfl
theorem uo:∃Z:Array Value,Z.size=16∧∀(ρ:Operand→Value) (o:Oper) (w:World),o.op=.alloc 87→(execOp ρ o).run prog w=.ok (.value (.pointer (some ⟨w.heap.size,0,none⟩))) (w.alloc (.cells Z 87)):=
 ⟨gY.toArray,rfl,fun ρ o w ho=>by simp[execOp,ho,Ak,Result.andThen]⟩
theorem mC{a:Option Addr}{n c:Nat}(X:List Int):(de (.slice a n c) X).all (·.oneCell')=true:=by simp[de,Value.oneCell']
theorem mD(img:Value)(X:List Int)(hX:X.length=15):(de img X).size=16:=by simp[de,hX]
theorem uq(img:Value)(zs:List Int)(s:Int)(ds:List Int)(p q:Int)(w:World)(h:Rd .u8 w img zs)(hz:zs.length≤1048576)(hd:ds.length=12):
 Calls prog 43 #[img,.agg (aB (aD s ds p q))] w fun e w'=>∃ev,e=.returned (.tuple #[.agg (de img (aD s ds p q)),ev])∧fa w' 0 (cF zs.length&&cA s ds p q) ev 7∧Below w.heap.size w w':=by
 obtain⟨sa,sc,rfl⟩:=dZ h;have HR:=aa (ag h hd);have hRl:=eR s ds p q hd;have HBu:=aa (uk sa zs.length sc (aD s ds p q) hRl);have HZ:=ae ((aB (aD s ds p q)).size=15) (by rw[fc];exact hRl);have HTs:=aa (mD (.slice sa zs.length sc) _ hRl);clear h hd hRl;go_enter func43,ntmps43;go_upto_region 2 with fail;generalize hW1:World.alloc _ (Obj.cells #[.int .i64 7,.nilIface] 100)=W1;have HW:=ae (∃Z0:Array Value,Z0.size=16∧af W1 w.heap.size (aB (aD s ds p q)) 28∧af W1 (w.heap.size+1) Z0 87∧Ck W1 (w.heap.size+2) (w.heap.size+3) 7 true∧Below w.heap.size w W1∧W1.heap.size=w.heap.size+3) (by
  rw[←hW1];refine⟨gY.toArray,rfl,((af.new w _ _).alloc _).alloc _,?_,?_,?_,?_⟩
  ·have h:=af.new (w.alloc (.cells (aB (aD s ds p q)) 28)) gY.toArray 87;rw[size_alloc] at h;exact h.alloc _
  ·have h:=Ck.fresh ((w.alloc (.cells (aB (aD s ds p q)) 28)).alloc (.cells gY.toArray 87)) 7 100;rw[size_alloc,size_alloc] at h;exact h
  ·exact((ak.alloc aj _).alloc (by simp) _).alloc (by simp;omega) _
  ·simp)
 clear hW1;obtain⟨Z0,hZ0,k0,k1,ck,bb,hs1⟩:=HW.out;have H1:=aa (ag hZ0 (ag k0 (ag k1 (ag ck (ag bb hs1)))));clear HW hZ0 k0 k1 ck bb hs1;go_upto_region 3 with(first
  |(go_at_call 85;refine(tn _ zs _ (HR.out.1.below H1.out.2.2.2.2.1) (by omega)).mono ?_;rintro e w9 ⟨rfl,hw9⟩;rw[←hw9];clear hw9)
  |(go_at_call 58;refine(dV (w.heap.size+2) (w.heap.size+3) _ 7 true (cF zs.length) _ H1.out.2.2.2.1 (by omega) (by rw[H1.out.2.2.2.2.2];omega)).mono ?_;rintro e w2 ⟨rfl,ck2,t2⟩;rw[Bool.true_and] at ck2;have H2:=aa (ag ck2 t2);clear ck2 t2))
 have HB2:=aa (H2.out.2.under H1.out.2.2.2.2.1 (by omega) H1.out.2.2.2.2.1.size);have hs2:w.heap.size+3≤w2.heap.size:=by have:=H2.out.2.1.size;rw[H1.out.2.2.2.2.2] at this;exact this
 have K0:=ae (af w2 w.heap.size (aB (aD s ds p q)) 28) ((H2.out.2.1.block _ H1.out.2.1.lt (by simp)).trans H1.out.2.1);have K1:=ae (af w2 (w.heap.size+1) Z0 87) ((H2.out.2.1.block _ H1.out.2.2.1.lt (by simp)).trans H1.out.2.2.1);go_upto_region 4 with(first
  |(refine wpList_load_row rfl 28 _ rfl w.heap.size rfl 28 (aB (aD s ds p q)) (0,0) _ K0.out underlying28 rfl (by rw[HZ.out];exact dr) ?_)
  |(go_at_call 86;refine(ug s ds p q 7 _ HR.out.2).mono ?_;rintro e w3 ⟨ev3,rfl,f3,b3⟩;have H3:=aa (ag f3 b3);clear f3 b3)
  |(go_at_call 56;refine(mW (w.heap.size+2) (w.heap.size+3) _ 7 (cF zs.length) (cA s ds p q) ev3 _ (H2.out.1.below H3.out.2) (H3.out.1.mono hs2) (by omega) (aN hs2 H3.out.2.size)).mono ?_;rintro e w4 ⟨rfl,ck4,t4⟩;have H4:=aa (ag ck4 t4);clear ck4 t4))
 have hs3:=H3.out.2.size;have HB4:=aa (H4.out.2.under (HB2.out.trans (H3.out.2.mono HB2.out.size)) (by omega) (aN HB2.out.size hs3));have L0:af w4 w.heap.size (aB (aD s ds p q)) 28:=(H4.out.2.1.block _ (Nat.lt_of_lt_of_le K0.out.lt hs3) (by simp)).trans (K0.out.below H3.out.2 K0.out.lt);have L1:=ae (af w4 (w.heap.size+1) Z0 87) ((H4.out.2.1.block _ (Nat.lt_of_lt_of_le K1.out.lt hs3) (by simp)).trans (K1.out.below H3.out.2 K1.out.lt));obtain⟨ev,ce,hfe⟩:=H4.out.1.fault;have HFe:=aa hfe;clear hfe;refine cr (fun w'=>af w' w.heap.size (aB (aD s ds p q)) 28∧w'.cell? ⟨w.heap.size+2,1,none⟩=some ev) ⟨L0,ce⟩ fun hH=>?_;refine ah 0 (.slice sa zs.length sc) rfl hH ?_;refine ah 1 (.agg (aB (aD s ds p q))) rfl hH ?_ (iJ ⟨by rfl,fun w' hw'=>nI (a:=_) 28 (.tmp 3) rfl w.heap.size rfl 28 _ (0,0) _ hw'.1 underlying28 rfl (by rw[HZ.out];exact dr)⟩);refine ah 2 (.agg (de (.slice sa zs.length sc) (aD s ds p q))) rfl hH ?_ (iJ ⟨by rfl,fun w' hw'=>um 87 _ rfl _ (by simp only[List.map_toArray,List.map_cons,List.map_nil];exact HBu.out)⟩);refine ah 3 (.pointer (some ⟨w.heap.size+2,1,none⟩)) rfl hH ?_;refine ah 4 ev rfl hH ?_ (aH fun w' hw'=>by have c9:=hw'.2;go_simp);have D1:af (drew w4) (w.heap.size+1) Z0 87:=L1.out;have hgr:(drew w4).grownBy ((drew w4).setRow (w.heap.size+1) (de (.slice sa zs.length sc) (aD s ds p q))) (some (w.heap.size+1)):=⟨rfl,rfl,rfl,by simp[setRow],fun k hk hne=>by simp[setRow,Array.getElem?_modify,show ¬w.heap.size+1=k from fun e=>hne (by rw[e])]⟩;refine aG 5 rfl fun K hK=>?_;rw[if_pos (by rfl)];refine wp_store_row 87 (.tmp 4) (.tmp 16) rfl (w.heap.size+1) (de (.slice sa zs.length sc) (aD s ds p q)) rfl rfl 87 Z0 D1 (by rw[HTs.out];exact fU) (by rw[HTs.out];exact H1.out.1) (mC _) ?_;have hckl:=H4.out.1.lt;refine hK.out _ _ ⟨(hgr.block _ L0.lt (by simp)).trans L0,(World.cell?_of_block (a:=⟨w.heap.size+2,1,none⟩) (hgr.block _ (show w.heap.size+2<w4.heap.size from hckl) (by simp))).trans ce⟩ (fun hH2=>?_);clear hK K;try simp only[Act.put,aq,au,av,ay,az,aA]
 refine ah 6 ev rfl hH2 ?_;refine bz ?_;go_wp2;refine bodyPost_ret (v:=.tuple #[.agg (de (.slice sa zs.length sc) (aD s ds p q)),ev]) ?_ rfl ⟨ev,rfl,?_,below_setRow (HB4.out.drew) (by omega) _⟩
 ·exact iq rfl _ _ (w.heap.size+1) 87 _ (0,0) _ _ rfl rfl (D1.row _) underlying87 rfl (by rw[HTs.out];exact fU)
 ·rcases HFe.out with⟨h1,h2⟩|⟨h1,m,h2⟩
  ·exact .inl ⟨h1,h2⟩
  ·refine .inr ⟨h1,m,bj.mono (lo:=w.heap.size+3) (Nat.zero_le _) (bj.keep (fun b o u hb hc=>?_) h2)⟩;have hlt:=eN hc;exact(World.cell?_of_block (a:=⟨b,o,none⟩) (hgr.block b (show b<w4.heap.size from hlt) (by simp;omega))).trans hc
theorem jS{w:World}{base:Nat}{e:TypeId}{v:Value}{n:Nat}{xs:List Value}(h:w.ownsRow base e 1 v n xs):∃a cap,v=.slice a n cap:=by
 rcases h.2 with⟨rfl,rfl⟩|⟨g,cap,_,rfl,_⟩
 ·exact⟨_,_,rfl⟩
 ·exact⟨_,_,rfl⟩
theorem Al(w:World)(a:Option Addr)(len cap:Nat):
 Calls prog 41 #[.slice a len cap,.nilIface] w fun e w'=>e=.returned (.tuple #[.slice a len cap,.int .i64 0])∧w'=w:=by
 go_enter func41,ntmps41;go_wp2;go_ret2;exact⟨rfl,rfl⟩
theorem Am(w:World)(a:Option Addr)(len cap m lo:Nat)(ev:Value)(code:Int)(hf:bj w lo m ev code)(hg:eZ w):
 Calls prog 41 #[.slice a len cap,ev] w fun e w'=>e=.returned (.tuple #[.slice none 0 0,.int .i64 code])∧Below w.heap.size w w':=by
 obtain⟨t',x',rfl⟩:=hf.iface;have H4:=aa hf;have HG:=aa hg;clear hf hg;go_enter func41,ntmps41;go_wp2_with (go_at_call 27;refine(kN m _ code _ _ H4.out HG.out).mono ?_;rintro e w3 ⟨rfl,hb3⟩);go_ret2;exact⟨rfl,hb3⟩
def ZR(zs:List Int)(s:Int)(ds:List Int)(p q:Int):TL:=bR (dQ ((s.toNat+511)/512) (zs.length/512) (aJ zs) (fun j=>(ds++[p,q]).getD j 0))
def cV(zs:List Int)(s:Int)(ds:List Int)(p q:Int):Bool:=cF zs.length&&cA s ds p q
def fG(zs:List Int)(s:Int)(ds:List Int)(p q:Int):Int:=if cV zs s ds p q=false then 7 else if(ZR zs s ds p q).2=true then 21 else 0
def gL(zs:List Int)(s:Int)(ds:List Int)(p q:Int):List Int:=if cV zs s ds p q=true∧(ZR zs s ds p q).2=false then cR zs s.toNat (aM (ZR zs s ds p q).1) else []
theorem lD{s:Int}{ds:List Int}{p q:Int}(h:cA s ds p q=true):0≤s∧s≤262144:=by
 unfold cA at h;simp only[Bool.and_eq_true,decide_eq_true_eq] at h;exact h.1
theorem nJ(img:Value)(X:List Int):(de img X)[0]?=some img:=by simp[de]
theorem qs(img:Value)(X:List Int)(k:Nat)(h:k<X.length):(de img X)[1+k]?=some (.int .i64 (X.getD k 0)):=by
 unfold de;rw[List.getElem?_toArray,List.getElem?_append_right (by simp)];simp[getD,h]
theorem An(img:Value)(zs:List Int)(s:Int)(ds:List Int)(p q:Int)(w:World)(h:Rd .u8 w img zs)(hz:zs.length≤1048576)(hbd:∀z∈zs,0≤z∧z<256)(hd:ds.length=12):
 Calls prog 42 #[img,.agg (aB (aD s ds p q))] w fun e w'=>∃a n c ev,e=.returned (.tuple #[.slice a n c,ev])∧((fG zs s ds p q=0∧ev=.nilIface∧w'.ownsRow w.heap.size 5 1 (.slice a n c) (gL zs s ds p q).length ((gL zs s ds p q).map (Value.int .u8)))∨(fG zs s ds p q≠0∧∃m,bj w' 0 m ev (fG zs s ds p q)))∧Below w.heap.size w w':=by
 have HR:=aa (ag h (ag hbd hd));have hRl:=eR s ds p q hd;have HZ:=ae ((aB (aD s ds p q)).size=15) (by rw[fc];exact hRl);obtain⟨sa,sc,rfl⟩:=dZ h;have HTs:=aa (mD (.slice sa zs.length sc) _ hRl);obtain⟨Z1,hZ1,hAl⟩:=uo;have HAl:=aa (ag hZ1 hAl);have HRl:=aa hRl;clear h hbd hd hRl hZ1 hAl;have b0:Below w.heap.size w (w.alloc (.cells (aB (aD s ds p q)) 28)):=ak.alloc aj _;have HB0:=aa b0;clear b0;go_enter func42,ntmps42;go_upto_region 2 with(first
  |(refine wpList_load_row rfl 28 _ rfl w.heap.size rfl 28 (aB (aD s ds p q)) (0,0) _ (af.new w _ _) underlying28 rfl (by rw[HZ.out];exact dr) ?_)
  |(go_at_call 43;refine(uq _ zs s ds p q _ (HR.out.1.below HB0.out) hz HR.out.2.2).mono ?_;rintro e w2 ⟨ev,rfl,f2,b2⟩;have H2:=aa (ag f2 b2);clear f2 b2)
  |(refine Great.wpList_allocTo rfl (some 6) rfl (.pointer (some ⟨w2.heap.size,0,none⟩)) (.cells Z1 87) (HAl.out.2 _ _ _ rfl) ?_)
  |(refine wpList_store_row rfl 87 _ _ rfl w2.heap.size (de (.slice sa zs.length sc) (aD s ds p q)) rfl rfl 87 Z1 (af.new w2 _ _) (by rw[HTs.out];exact fU) (by rw[HTs.out];exact HAl.out.1) (mC _) ?_))
 obtain⟨W3,hW3⟩:∃W3,W3=(w2.alloc (.cells Z1 87)).setRow w2.heap.size (de (.slice sa zs.length sc) (aD s ds p q)):=⟨_,rfl⟩;have K3:=ae (af W3 w2.heap.size (de (.slice sa zs.length sc) (aD s ds p q)) 87) (by rw[hW3];exact(af.new w2 Z1 87).row _);have B3:=ae (Below w2.heap.size w2 W3) (by rw[hW3];exact below_setRow (ak.alloc aj _) aj _);rw[←hW3];clear hW3;have BW:=ae (Below w.heap.size w W3) (HB0.out.trans ((H2.out.2.trans (B3.out.mono H2.out.2.size)).mono HB0.out.size));cases hok:cF zs.length&&cA s ds p q with
 |false=>
  have hf:=H2.out.1;rw[hok] at hf;rcases hf with⟨hf,_⟩|⟨_,m,hf⟩
  ·cases hf
  obtain⟨t',x',rfl⟩:=hf.iface;have HF:=aa (hf.below B3.out);have HC:=ae (fG zs s ds p q=7) (by unfold fG cV;rw[hok,if_pos rfl]);clear hf hok;go_wp2;go_ret2;exact⟨_,_,_,_,rfl,.inr ⟨by rw[HC.out];decide,m,by rw[HC.out];exact HF.out⟩,BW.out⟩
 |true=>
  have hf:=H2.out.1;rw[hok] at hf;rcases hf with⟨_,rfl⟩|⟨hf,_⟩;rotate_left
  ·cases hf
  have hr:cA s ds p q=true:=by rw[Bool.and_eq_true] at hok;exact hok.2
  obtain⟨hs0,hs1⟩:=lD hr;obtain⟨sz,rfl⟩:∃sz:Nat,s=(sz:Int):=⟨s.toNat,by omega⟩;have HOk:=ae (cV zs (sz:Int) ds p q=true) hok;clear hok hr hs0;have hRl:=HRl.out;have hX:=fun k hk=>qs (.slice sa zs.length sc) (aD (sz:Int) ds p q) k hk;have HX:=ae ((de (.slice sa zs.length sc) (aD (sz:Int) ds p q))[1]?=some (.int .i64 (sz:Int))∧∀j,j<14→(de (.slice sa zs.length sc) (aD (sz:Int) ds p q))[2+j]?=some (.int .i64 ((ds++[p,q]).getD j 0))) (by
   refine⟨(hX 0 (by omega)).trans (by simp[aD]),fun j hj=>?_⟩;have:=hX (j+1) (by omega);rw[show 1+(j+1)=2+j by omega] at this;rw[this];simp[aD,getD])
  clear hX hRl;go_wp2_with (first
   |(refine wpList_load_row rfl 87 _ rfl w2.heap.size rfl 87 (de (.slice sa zs.length sc) (aD (sz:Int) ds p q)) (0,0) _ K3.out underlying87 rfl (by rw[HTs.out];exact fU) ?_)
   |(go_at_call 61;refine(uf ((sz+511)/512) sz zs _ (fun j=>(ds++[p,q]).getD j 0) _ _ (ZR zs (sz:Int) ds p q) (nJ _ _) HX.out.1 HX.out.2 HTs.out (HR.out.1.below BW.out) hz HR.out.2.1 (by omega) rfl rfl).mono ?_;rintro e w5 ⟨v,ev,rfl,h5,b5⟩;have H5:=aa (ag h5 b5);clear h5 b5))
  rcases H5.out.1 with⟨hZ0,rfl,o5⟩|⟨hZ1,rfl,m,f5⟩
  ·obtain⟨va,vc,rfl⟩:=jS o5;have HO:=aa (ag hZ0 (bZ o5 BW.out.size));clear o5 hZ0;go_ret2;have e1:gL zs (sz:Int) ds p q=cR zs sz (aM (ZR zs (sz:Int) ds p q).1):=(by unfold gL;rw[if_pos ⟨HOk.out,HO.out.1⟩];rfl);have hl:(gL zs (sz:Int) ds p q).length=sz:=(by rw[e1];have:=HO.out.2.1;simpa using this);refine⟨_,_,_,_,rfl,.inl ⟨by unfold fG;rw[HOk.out,HO.out.1];simp,rfl,?_⟩,BW.out.trans (H5.out.2.mono BW.out.size)⟩;rw[hl,e1];exact HO.out.2
  ·have HC:=ae (fG zs (sz:Int) ds p q=21) (by unfold fG;rw[HOk.out,hZ1];simp);have HF:=aa f5;clear f5 hZ1;go_ret2;exact⟨_,_,_,_,rfl,.inr ⟨by rw[HC.out];decide,m,by rw[HC.out];exact HF.out⟩,BW.out.trans (H5.out.2.mono BW.out.size)⟩
theorem Ao(img:Value)(zs:List Int)(s:Int)(ds:List Int)(p q:Int)(w:World)(h:Rd .u8 w img zs)(hz:zs.length≤1048576)(hbd:∀z∈zs,0≤z∧z<256)(hd:ds.length=12)(hg:eZ w):
 Calls prog 12 #[img,.agg (aB (aD s ds p q))] w fun e w'=>∃v,e=.returned (.tuple #[v,.int .i64 (fG zs s ds p q)])∧w'.ownsRow w.heap.size 5 1 v (gL zs s ds p q).length ((gL zs s ds p q).map (Value.int .u8))∧Below w.heap.size w w':=by
 have HR:=aa (ag h (ag hbd (ag hd hg)));have HZ:=ae ((aB (aD s ds p q)).size=15) (by rw[fc];exact eR s ds p q hd);obtain⟨sa,sc,rfl⟩:=dZ h;clear h hbd hd hg;have HB0:=ae (Below w.heap.size w (w.alloc (.cells (aB (aD s ds p q)) 28))) (ak.alloc aj _);go_enter func12,ntmps12;go_wp2_with (first
  |(refine wpList_load_row rfl 28 _ rfl w.heap.size rfl 28 (aB (aD s ds p q)) (0,0) _ (af.new w _ _) underlying28 rfl (by rw[HZ.out];exact dr) ?_)
  |(go_at_call 42;refine(An _ zs s ds p q _ (HR.out.1.below HB0.out) hz HR.out.2.1 HR.out.2.2.1).mono ?_;rintro e w2 ⟨a2,n2,c2,ev,rfl,h2,b2⟩;have H2:=aa (ag h2 b2);clear h2 b2)
  |(go_at_call 41;fail))
 have BW:=ae (Below w.heap.size w w2) (HB0.out.trans (H2.out.2.mono HB0.out.size));rcases H2.out.1 with⟨hc,rfl,o2⟩|⟨hc,m,f2⟩
 ·have HO:=aa (ag hc (bZ o2 HB0.out.size));clear o2 hc;refine(Al w2 a2 n2 c2).mono ?_;rintro e w3 ⟨rfl,rfl⟩;go_wp2;go_ret2;exact⟨_,by rw[HO.out.1];rfl,HO.out.2,BW.out⟩
 ·have HF:=aa (ag hc f2);clear hc f2;refine(Am w2 a2 n2 c2 m 0 ev _ HF.out.2 (HR.out.2.2.2.below BW.out)).mono ?_;rintro e w3 ⟨rfl,b3⟩;have HB3:=aa b3;clear b3;go_wp2;go_ret2;have e1:gL zs s ds p q=[]:=by
   unfold gL;have hc:=HF.out.1;unfold fG at hc;split
   ·rename_i h
    rw[if_neg (by rw[h.1];decide),if_neg (by rw[h.2];decide)] at hc;exact absurd rfl hc
   ·rfl
  exact⟨_,rfl,by rw[e1];exact World.ownsRow_nil _ _ _ _,BW.out.trans (HB3.out.mono BW.out.size)⟩
theorem qt:(prog.info? 138).map (·.size)=some 3:=by kernel_rfl
def iV(l o i c:Int):Value:=.tuple #[.agg #[.int .i64 l,.int .i64 o,.int .i64 i],.int .i64 c]
theorem Ap(x:Nat)(w:World)(h:x<12):
 Calls prog 80 #[.int .i64 x] w fun e w'=>e=.returned (iV 0 0 x 0)∧Below w.heap.size w w':=by
 have HB:=ae (∀C,Below w.heap.size w (w.alloc C)) (fun C=>ak.alloc aj _);go_enter func80,ntmps80;go_wp2;refine bodyPost_ret (v:=iV 0 0 x 0) ?_ rfl ⟨rfl,HB.out _⟩;exact iq rfl _ _ w.heap.size 138 _ (0,0) _ _ rfl rfl (heap_alloc_new w _) underlying138 rfl qt
theorem Aq(x:Nat)(w:World)(h:x<128):
 Calls prog 80 #[.int .i64 ((x+12:Nat):Int)] w fun e w'=>e=.returned (iV 1 0 x 0)∧Below w.heap.size w w':=by
 have HB:=ae (∀C,Below w.heap.size w (w.alloc C)) (fun C=>ak.alloc aj _);go_enter func80,ntmps80;go_wp2;refine bodyPost_ret (v:=iV 1 0 x 0) ?_ rfl ⟨rfl,HB.out _⟩;exact iq rfl _ _ w.heap.size 138 _ (0,0) _ _ rfl rfl (heap_alloc_new w _) underlying138 rfl qt
theorem Ar(x:Nat)(w:World)(h:x<372):
 Calls prog 80 #[.int .i64 ((x+140:Nat):Int)] w fun e w'=>e=.returned (iV 2 ((x/128:Nat):Int) ((x%128:Nat):Int) 0)∧Below w.heap.size w w':=by
 have HB:=ae (∀C,Below w.heap.size w (w.alloc C)) (fun C=>ak.alloc aj _);go_enter func80,ntmps80;go_wp2;have e1:(x:Int)/128=((x/128:Nat):Int):=by omega
 have e2:(x:Int)%128=((x%128:Nat):Int):=by omega
 rw[e1,e2];refine bodyPost_ret (v:=iV 2 ((x/128:Nat):Int) ((x%128:Nat):Int) 0) ?_ rfl ⟨rfl,HB.out _⟩;exact iq rfl _ _ w.heap.size 138 _ (0,0) _ _ rfl rfl (heap_alloc_new w _) underlying138 rfl qt
end
end Go.Proofs.YtlimollpocagiaaGreatDoor
