/- The program opens a tree: openTree, readTree, TreeRead -/
import Derived.Test.YtpplnhkpcpieoaaGreatDoorZx09
namespace Go.Proofs.YtpplnhkpcpieoaaGreatDoor
open Go.Proofs.Tryz
open World (size_alloc drew setRow)
set_option linter.all false
set_option maxRecDepth 100000
set_option maxHeartbeats 16000000
section
open Go.RowKit
theorem yo(off:Nat):∀(vs:List Value) (n:Nat) (L:List Value),off+n+vs.length≤L.length→
 ((vs.zipIdx n).foldl (fun(cs:Array Value) (p:Value×Nat)=>cs.setIfInBounds (off+p.2) p.1) L.toArray)=(L.take (off+n)++vs++L.drop (off+n+vs.length)).toArray
 |[],n,L,h=>by simp
 |v::vs,n,L,h=>by
  have hlt:off+n<L.length:=by simp at h;omega
  rw[List.zipIdx_cons,List.foldl_cons];have e:L.toArray.setIfInBounds (off+n) v=(L.take (off+n)++v::L.drop (off+n+1)).toArray:=by
   rw[List.setIfInBounds_toArray,List.set_eq_take_append_cons_drop,if_pos hlt]
  rw[e,yo off vs (n+1) _ (by simp at h⊢;omega)];have hl:(L.take (off+n)).length=off+n:=by rw[List.length_take];omega
  have e1:(L.take (off+n)++v::L.drop (off+n+1)).take (off+(n+1))=L.take (off+n)++[v]:=by
   rw[List.take_append,hl,List.take_of_length_le (by omega),show off+(n+1)-(off+n)=1 by omega];rfl
  have e2:(L.take (off+n)++v::L.drop (off+n+1)).drop (off+(n+1)+vs.length)=L.drop (off+n+(v::vs).length):=by
   rw[List.drop_append,hl,List.drop_of_length_le (by omega),List.nil_append,show off+(n+1)+vs.length-(off+n)=vs.length+1 by omega,List.drop_succ_cons,List.drop_drop];congr 1;simp;omega
  rw[e1,e2];simp
theorem yp(p:Nat→Option (Nat×Nat))(i off:Nat)(v:Value)(vs L:List Value)(rest:List (Nat×Value))(hp:p i=some (off,vs.length))(hv:v.cells=vs.toArray)(hl:off+vs.length≤L.length):
 Instr.fill p L.toArray ((i,v)::rest)=Instr.fill p (L.take off++vs++L.drop (off+vs.length)).toArray rest:=by
 have hf:(vs.toArray.zipIdx.foldl (fun(cs:Array Value) (p:Value×Nat)=>cs.setIfInBounds (off+p.2) p.1) L.toArray)=(L.take off++vs++L.drop (off+vs.length)).toArray:=by
  rw[←Array.foldl_toList,Array.toList_zipIdx];exact yo off vs 0 L (by omega)
 rw[Instr.fill,hp];simp only[hv];rw[if_neg (by simp;omega)];rw[←hf]
def fT(img:Value)(X:List Int):Array Value:=([img]++X.map (Value.int .i64)).toArray
def E9:List (Nat×Nat):=[(0,1),(1,15)]
def j3:List Value:=[Value.slice none 0 0]++(List.replicate 15 (0:Int)).map (Value.int .i64)
theorem Fa(parts:List (Nat×Value)):prog.built 108 parts=Instr.fill (E9.toArray[·]?) j3.toArray parts:=by kernel_rfl
theorem yq(a:Option Addr)(n c:Nat)(X:List Int)(hX:X.length=15):prog.built 108 [(0,.slice a n c),(1,.agg (an X))]=some (fT (.slice a n c) X):=by
 rw[Fa];rw[yp _ 0 0 (.slice a n c) [.slice a n c] j3 _ rfl rfl (by simp[j3])];have e1:j3.take 0++[Value.slice a n c]++j3.drop (0+[Value.slice a n c].length)=[Value.slice a n c]++(List.replicate 15 (0:Int)).map (Value.int .i64):=rfl;rw[e1];rw[yp _ 1 1 (.agg (an X)) (X.map (Value.int .i64)) _ _ (by rw[List.length_map,hX];rfl) rfl (by simp[hX])];have e2:([Value.slice a n c]++(List.replicate 15 (0:Int)).map (Value.int .i64)).take 1++X.map (Value.int .i64)++([Value.slice a n c]++(List.replicate 15 (0:Int)).map (Value.int .i64)).drop (1+(X.map (Value.int .i64)).length)=[Value.slice a n c]++X.map (Value.int .i64):=by
  rw[List.length_map,hX];simp
 rw[e2,Instr.fill];rfl
theorem qS{P:Program}{o:Oper}{a:Act}{w:World}(t:TypeId)(parts:Array (Nat×Operand))(ho:o.op=.build t parts)(cells:Array Value)(hf:P.built t (parts.map fun(i,x)=>(i,a.eval x)).toList=some cells):(execOp a.eval o).run P w=.ok (.value (.agg cells)) w:=by
 unfold execOp;simp only[ho,Sem.run_bind,run_build w t _ cells hf,Result.andThen_ok];rfl
theorem ue{a:Option Addr}{n c:Nat}(X:List Int):(fT (.slice a n c) X).all (·.oneCell')=true:=by simp[fT,Value.oneCell']
theorem uf(img:Value)(X:List Int)(hX:X.length=15):(fT img X).size=16:=by simp[fT,hX]
theorem Fb(img:Value)(zs:List Int)(s:Int)(ds:List Int)(p q:Int)(w:World)(h:Rd .u8 w img zs)(hz:zs.length≤1048576)(hd:ds.length=12):
 Calls prog 87 #[img,.agg (an (aD s ds p q))] w fun e w'=>∃ev,e=.returned (.tuple #[.agg (fT img (aD s ds p q)),ev])∧fB w' 0 (dx zs.length&&cJ s ds p q) ev 7∧Below w.heap.size w w':=by
 obtain⟨sa,sc,rfl⟩:=eY h;have HR:=aa (ai h hd);have hRl:=dw s ds p q hd;have U6:=aa (yq sa zs.length sc (aD s ds p q) hRl);have HZ:=ae ((an (aD s ds p q)).size=15) (by rw[ct];exact hRl);have OV:=aa (uf (.slice sa zs.length sc) _ hRl);clear h hd hRl;go_enter func87,ntmps87;go_upto_region 2 with fail;generalize hW1:World.alloc _ (Obj.cells #[.int .i64 7,.nilIface] 93)=W1;have HW:=ae (∃Z0:Array Value,Z0.size=16∧af W1 w.heap.size (an (aD s ds p q)) 31∧af W1 (w.heap.size+1) Z0 108∧Ck W1 (w.heap.size+2) (w.heap.size+3) 7 true∧Below w.heap.size w W1∧W1.heap.size=w.heap.size+3) (by
  rw[←hW1];refine⟨j3.toArray,rfl,((af.new w _ _).alloc _).alloc _,?_,?_,?_,?_⟩
  ·have h:=af.new (w.alloc (.cells (an (aD s ds p q)) 31)) j3.toArray 108;rw[size_alloc] at h;exact h.alloc _
  ·have h:=Ck.fresh ((w.alloc (.cells (an (aD s ds p q)) 31)).alloc (.cells j3.toArray 108)) 7 93;rw[size_alloc,size_alloc] at h;exact h
  ·exact((ak.alloc aj _).alloc (by simp) _).alloc (by simp;omega) _
  ·simp)
 clear hW1;obtain⟨Z0,Qx,k0,k1,ck,bb,hs1⟩:=HW.out;have H1:=aa (ai Qx (ai k0 (ai k1 (ai ck (ai bb hs1)))));clear HW Qx k0 k1 ck bb hs1;go_upto_region 3 with(first
  |(go_at_call 121;refine(xM _ zs _ (HR.out.1.below H1.out.2.2.2.2.1) (by omega)).mono ?_;rintro e w9 ⟨rfl,eJ⟩;rw[←eJ];clear eJ)
  |(go_at_call 46;refine(eB (w.heap.size+2) (w.heap.size+3) _ 7 true (dx zs.length) _ H1.out.2.2.2.1 (by omega) (by rw[H1.out.2.2.2.2.2];omega)).mono ?_;rintro e w2 ⟨rfl,ck2,t2⟩;rw[Bool.true_and] at ck2;have H2:=aa (ai ck2 t2);clear ck2 t2))
 have HB2:=aa (H2.out.2.under H1.out.2.2.2.2.1 (by omega) H1.out.2.2.2.2.1.size);have hs2:w.heap.size+3≤w2.heap.size:=by have:=H2.out.2.1.size;rw[H1.out.2.2.2.2.2] at this;exact this
 have K0:=ae (af w2 w.heap.size (an (aD s ds p q)) 31) ((H2.out.2.1.block _ H1.out.2.1.lt (by simp)).trans H1.out.2.1);have K1:=ae (af w2 (w.heap.size+1) Z0 108) ((H2.out.2.1.block _ H1.out.2.2.1.lt (by simp)).trans H1.out.2.2.1);go_upto_region 4 with(first
  |(refine wpList_load_row rfl 31 _ rfl w.heap.size rfl 31 (an (aD s ds p q)) (0,0) _ K0.out underlying31 rfl (by rw[HZ.out];exact dV) ?_)
  |(go_at_call 122;refine(ym s ds p q 7 _ HR.out.2).mono ?_;rintro e w3 ⟨Ym,rfl,f3,b3⟩;have H3:=aa (ai f3 b3);clear f3 b3)
  |(go_at_call 82;refine(qp (w.heap.size+2) (w.heap.size+3) _ 7 (dx zs.length) (cJ s ds p q) Ym _ (H2.out.1.below H3.out.2) (H3.out.1.mono hs2) (by omega) (aK hs2 H3.out.2.size)).mono ?_;rintro e w4 ⟨rfl,Rw,t4⟩;have H4:=aa (ai Rw t4);clear Rw t4))
 have hs3:=H3.out.2.size;have Pw:=aa (H4.out.2.under (HB2.out.trans (H3.out.2.mono HB2.out.size)) (by omega) (aK HB2.out.size hs3));have L0:af w4 w.heap.size (an (aD s ds p q)) 31:=(H4.out.2.1.block _ (Nat.lt_of_lt_of_le K0.out.lt hs3) (by simp)).trans (K0.out.below H3.out.2 K0.out.lt);have L1:=ae (af w4 (w.heap.size+1) Z0 108) ((H4.out.2.1.block _ (Nat.lt_of_lt_of_le K1.out.lt hs3) (by simp)).trans (K1.out.below H3.out.2 K1.out.lt));obtain⟨ev,ce,hfe⟩:=H4.out.1.fault;have Yn:=aa hfe;clear hfe;refine bg (fun w'=>af w' w.heap.size (an (aD s ds p q)) 31∧w'.cell? ⟨w.heap.size+2,1,none⟩=some ev) ⟨L0,ce⟩ fun hH=>?_;refine ah 0 (.slice sa zs.length sc) rfl hH ?_;refine ah 1 (.agg (an (aD s ds p q))) rfl hH ?_ (kK ⟨by rfl,fun w' hw'=>qR (a:=_) 31 (.tmp 3) rfl w.heap.size rfl 31 _ (0,0) _ hw'.1 underlying31 rfl (by rw[HZ.out];exact dV)⟩);refine ah 2 (.agg (fT (.slice sa zs.length sc) (aD s ds p q))) rfl hH ?_ (kK ⟨by rfl,fun w' hw'=>qS 108 _ rfl _ (by simp only[List.map_toArray,List.map_cons,List.map_nil];exact U6.out)⟩);refine ah 3 (.pointer (some ⟨w.heap.size+2,1,none⟩)) rfl hH ?_;refine ah 4 ev rfl hH ?_ (aH fun w' hw'=>by have c9:=hw'.2;go_simp);have D1:af (drew w4) (w.heap.size+1) Z0 108:=L1.out;have hgr:(drew w4).grownBy ((drew w4).setRow (w.heap.size+1) (fT (.slice sa zs.length sc) (aD s ds p q))) (some (w.heap.size+1)):=⟨rfl,rfl,rfl,by simp[setRow],fun k hk hne=>by simp[setRow,Array.getElem?_modify,show ¬w.heap.size+1=k from fun e=>hne (by rw[e])]⟩;refine aG 5 rfl fun K hK=>?_;rw[if_pos (by rfl)];refine wp_store_row 108 (.tmp 4) (.tmp 16) rfl (w.heap.size+1) (fT (.slice sa zs.length sc) (aD s ds p q)) rfl rfl 108 Z0 D1 (by rw[OV.out];exact jm) (by rw[OV.out];exact H1.out.1) (ue _) ?_;have Tc:=H4.out.1.lt;refine hK.out _ _ ⟨(hgr.block _ L0.lt (by simp)).trans L0,(World.cell?_of_block (a:=⟨w.heap.size+2,1,none⟩) (hgr.block _ (show w.heap.size+2<w4.heap.size from Tc) (by simp))).trans ce⟩ (fun hH2=>?_);clear hK K;try simp only[Act.put,av,ay,az,aA,aB,aC]
 refine ah 6 ev rfl hH2 ?_;refine aV ?_;go_wp2;refine bodyPost_ret (v:=.tuple #[.agg (fT (.slice sa zs.length sc) (aD s ds p q)),ev]) ?_ rfl ⟨ev,rfl,?_,below_setRow (Pw.out.drew) (by omega) _⟩
 ·exact jv rfl _ _ (w.heap.size+1) 108 _ (0,0) _ _ rfl rfl (D1.row _) underlying108 rfl (by rw[OV.out];exact jm)
 ·rcases Yn.out with⟨h1,h2⟩|⟨h1,m,h2⟩
  ·exact .inl ⟨h1,h2⟩
  ·refine .inr ⟨h1,m,bU.mono (lo:=w.heap.size+3) (Nat.zero_le _) (bU.keep (fun b o u hb hc=>?_) h2)⟩;have hlt:=eu hc;exact(World.cell?_of_block (a:=⟨b,o,none⟩) (hgr.block b (show b<w4.heap.size from hlt) (by simp;omega))).trans hc
theorem nV{w:World}{base:Nat}{e:TypeId}{v:Value}{n:Nat}{xs:List Value}(h:w.ownsRow base e 1 v n xs):∃a cap,v=.slice a n cap:=by
 rcases h.2 with⟨rfl,rfl⟩|⟨g,cap,_,rfl,_⟩
 ·exact⟨_,_,rfl⟩
 ·exact⟨_,_,rfl⟩
def ZR(zs:List Int)(s:Int)(ds:List Int)(p q:Int):TL:=dz (fe ((s.toNat+511)/512) (zs.length/512) (aQ zs) (fun j=>(ds++[p,q]).getD j 0))
def fG(zs:List Int)(s:Int)(ds:List Int)(p q:Int):Bool:=dx zs.length&&cJ s ds p q
def ug(zs:List Int)(s:Int)(ds:List Int)(p q:Int):List Int:=if fG zs s ds p q=true∧(ZR zs s ds p q).2=false then dN zs s.toNat (aY (ZR zs s ds p q).1) else []
theorem qT{s:Int}{ds:List Int}{p q:Int}(h:cJ s ds p q=true):0≤s∧s≤262144:=by
 unfold cJ at h;simp only[Bool.and_eq_true,decide_eq_true_eq] at h;exact h.1
theorem yt(img:Value)(X:List Int):(fT img X)[0]?=some img:=by simp[fT]
theorem Fc(img:Value)(X:List Int)(k:Nat)(h:k<X.length):(fT img X)[1+k]?=some (.int .i64 (X.getD k 0)):=by
 unfold fT;rw[List.getElem?_toArray,List.getElem?_append_right (by simp)];simp[List.getD,h]
theorem uh:(prog.info? 141).map (·.size)=some 3:=by kernel_rfl
def j4(l o i c:Int):Value:=.tuple #[.agg #[.int .i64 l,.int .i64 o,.int .i64 i],.int .i64 c]
theorem Fe(x:Nat)(w:World)(h:x<12):
 Calls prog 76 #[.int .i64 x] w fun e w'=>e=.returned (j4 0 0 x 0)∧Below w.heap.size w w':=by
 have HB:=ae (∀C,Below w.heap.size w (w.alloc C)) (fun C=>ak.alloc aj _);go_enter func76,ntmps76;go_wp2;refine bodyPost_ret (v:=j4 0 0 x 0) ?_ rfl ⟨rfl,HB.out _⟩;exact jv rfl _ _ w.heap.size 141 _ (0,0) _ _ rfl rfl (heap_alloc_new w _) underlying141 rfl uh
theorem Ff(x:Nat)(w:World)(h:x<128):
 Calls prog 76 #[.int .i64 ((x+12:Nat):Int)] w fun e w'=>e=.returned (j4 1 0 x 0)∧Below w.heap.size w w':=by
 have HB:=ae (∀C,Below w.heap.size w (w.alloc C)) (fun C=>ak.alloc aj _);go_enter func76,ntmps76;go_wp2;refine bodyPost_ret (v:=j4 1 0 x 0) ?_ rfl ⟨rfl,HB.out _⟩;exact jv rfl _ _ w.heap.size 141 _ (0,0) _ _ rfl rfl (heap_alloc_new w _) underlying141 rfl uh
theorem Fg(x:Nat)(w:World)(h:x<372):
 Calls prog 76 #[.int .i64 ((x+140:Nat):Int)] w fun e w'=>e=.returned (j4 2 ((x/128:Nat):Int) ((x%128:Nat):Int) 0)∧Below w.heap.size w w':=by
 have HB:=ae (∀C,Below w.heap.size w (w.alloc C)) (fun C=>ak.alloc aj _);go_enter func76,ntmps76;go_wp2;have e1:(x:Int)/128=((x/128:Nat):Int):=by omega
 have e2:(x:Int)%128=((x%128:Nat):Int):=by omega
 rw[e1,e2];refine bodyPost_ret (v:=j4 2 ((x/128:Nat):Int) ((x%128:Nat):Int) 0) ?_ rfl ⟨rfl,HB.out _⟩;exact jv rfl _ _ w.heap.size 141 _ (0,0) _ _ rfl rfl (heap_alloc_new w _) underlying141 rfl uh
end
end Go.Proofs.YtpplnhkpcpieoaaGreatDoor
