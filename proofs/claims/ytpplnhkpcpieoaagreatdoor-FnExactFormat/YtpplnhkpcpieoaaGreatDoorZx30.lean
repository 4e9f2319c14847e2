/- A new volume: what writing its map comes to -/
import Derived.Test.YtpplnhkpcpieoaaGreatDoorZx28
import Derived.Laws.Cover3
namespace Go.Proofs.YtpplnhkpcpieoaaGreatDoor
open Go.Proofs.Tryz
open _root_.List (range getD length_map)
open _root_.Array (getElem?_setIfInBounds_ne)
set_option linter.all false
set_option maxRecDepth 100000
set_option maxHeartbeats 16000000
section
open Go.RowKit
def cU(n j:Nat):List Int:=(range n).map fun i=>if i<j then 1 else 0
theorem jr(n j:Nat):(cU n j).length=n:=by simp[cU]
theorem Ac(n j i:Nat):(cU n j).getD i 0=if i<n∧i<j then 1 else 0:=by
 unfold cU;by_cases h:i<n
 ·simp[getD,h]
 ·simp[getD,h]
theorem pY(n j:Nat)(h:j<n):(cU n j).set j 1=cU n (j+1):=by
 refine List.ext_getElem (by simp[cU]) (fun i h1 h2=>?_);rw[List.getElem_set];simp only[cU,List.getElem_map,List.getElem_range];by_cases e:j=i
 ·subst e;simp
 ·rw[if_neg e];by_cases e2:i<j
  ·rw[if_pos e2,if_pos (by omega)]
  ·rw[if_neg e2,if_neg (by omega)]
def dS(m n j:Nat):FD:=⟨cU n (3+j),(range (m+1)).map (fun k=>if k<j then((3+k:Nat):Int) else 0),range j,3+j⟩
def bR(m:Nat):Nat:=if 12<m then m+1 else m
theorem Ad(m:Nat):cE m=range (bR m):=by
 unfold cE bR;split
 ·rw[List.range_succ]
 ·simp
theorem vh(m n j k:Nat):(dS m n j).pl.getD k 0=if k<m+1∧k<j then((3+k:Nat):Int) else 0:=by
 show((range (m+1)).map _).getD k 0=_;by_cases h:k<m+1
 ·simp[getD,h]
 ·simp[getD,h]
theorem IJ{n j:Nat}{bf:List Int}(hb:∀k,bf.getD k 0=0)(h:3+j+1<n):fD (cU n (3+j)) bf (3+j)=some (3+j):=by
 unfold fD;rw[jr];obtain⟨q,hq⟩:∃q,n-2=q+1:=⟨n-3,by omega⟩;rw[hq,List.range_succ_eq_map,List.map_cons,List.find?_cons,wO n (3+j) (by omega),Ac,hb,if_neg (by omega)];rfl
theorem IK{m n j:Nat}{bf ol:List Int}(hb:∀k,bf.getD k 0=0)(ho:∀k,ol.getD k 0=0)(hj:j<m+1)(h:3+j+1<n)(hn:n≤2048):bS m bf ol (dS m n j,true) j=(dS m n (j+1),true):=by
 unfold bS;have h1:fE m bf ol (dS m n j) j=true:=by
  unfold fE;rw[vh,if_neg (by omega),ho];simp
 rw[h1];simp only[Bool.and_self,↓reduceIte];unfold jw;rw[show(dS m n j).ws=cU n (3+j) from rfl,show(dS m n j).cu=3+j from rfl,IJ hb h];show(gC ol (dS m n j) j (3+j),true)=_;unfold gC;rw[ho];have e1:fO ((dS m n j).ws.set (3+j) 1) 0=cU n (3+(j+1)):=by
  unfold fO;rw[if_pos rfl];exact pY n (3+j) (by omega)
 have e2:(dS m n j).pl.set j ((3+j:Nat):Int)=(dS m n (j+1)).pl:=by
  show((range (m+1)).map _).set j _=(range (m+1)).map _;refine List.ext_getElem (by simp) (fun i h1 h2=>?_);rw[List.getElem_set];simp only[List.getElem_map,List.getElem_range];by_cases e:j=i
  ·subst e;simp
  ·rw[if_neg e];by_cases e2:i<j
   ·rw[if_pos e2,if_pos (by omega)]
   ·rw[if_neg e2,if_neg (by omega)]
 have e3:(dg (dS m n j).ws.length ((3+j:Nat):Int)).toNat=3+(j+1):=by
  rw[show(dS m n j).ws=cU n (3+j) from rfl,jr];unfold dg wrap64;rw[if_neg (by omega)];omega
 rw[e1,e2,e3,show(dS m n j).od++[j]=(dS m n (j+1)).od from List.range_succ.symm];rfl
theorem Ae{m n:Nat}{bf ol:List Int}(hb:∀k,bf.getD k 0=0)(ho:∀k,ol.getD k 0=0)(hn:n≤2048):∀t,t≤m+1→3+t<n→(range t).foldl (bS m bf ol) (dS m n 0,true)=(dS m n t,true)
 |0,_,_=>rfl
 |t+1,h1,h2=>by
  rw[List.range_succ,List.foldl_append,Ae hb ho hn t (by omega) (by omega)];exact IK hb ho (by omega) (by omega) hn
theorem Af{m n t:Nat}{bf ol:List Int}:∀l:List Nat,(∀k∈l,k<t∧k<m+1)→l.foldl (bS m bf ol) (dS m n t,true)=(dS m n t,true)
 |[],_=>rfl
 |k::l,h=>by
  have hk:=h k (List.mem_cons_self ..);have h1:bS m bf ol (dS m n t,true) k=(dS m n t,true):=by
   unfold bS;have h1:fE m bf ol (dS m n t) k=false:=by
    unfold fE;rw[vh,if_pos ⟨hk.2,hk.1⟩];simp;omega
   rw[h1];simp
  rw[List.foldl_cons,h1];exact Af l (fun j hj=>h j (List.mem_cons_of_mem _ hj))
theorem IL{m n f:Nat}{bf ol:List Int}(hb:∀k,bf.getD k 0=0)(ho:∀k,ol.getD k 0=0)(hn:n≤2048)(hm:0<m)(h:3+(m+1)<n):fJ m bf ol (f+2) (dS m n 0)=(dS m n (bR m),true):=by
 have ht:bR m≤m+1∧0<bR m:=by unfold bR;split<;>omega
 have p0:cW m bf ol (dS m n 0)=(dS m n (bR m),true):=by
  unfold cW;rw[Ad];exact Ae hb ho hn _ ht.1 (by omega)
 have p1:cW m bf ol (dS m n (bR m))=(dS m n (bR m),true):=by
  unfold cW;rw[Ad];exact Af _ (fun k hk=>by have:=List.mem_range.1 hk;omega)
 have l:∀j,(dS m n j).od.length=j:=fun j=>by simp[dS]
 rw[fJ,p0];simp only[l];rw[if_pos (by simp;omega)];rw[fJ,p1];simp
theorem IM(w:World)(e:TypeId)(sz:Nat):(w.alloc (.cells #[] e)).ownsRow w.heap.size e sz (.slice (some ⟨w.heap.size,0,none⟩) 0 0) 0 []:=
 ⟨by simp,.inr ⟨w.heap.size,0,#[],rfl,aj,heap_alloc_new w _,aj,by unfold maxLen;omega,by simp,by simp⟩⟩
theorem IN{P:Program}{w:World}(base:Nat)(t ty e:TypeId)(i:TypeInfo)(size:Nat)(ht:P.underlying t=some (.slice e))(hi:P.info? e=some i)
 (v:Value) (n:Nat) (xs:List Value) (hown:w.ownsRow base e size v n xs) (a:Option Addr) (c:Nat):
 (Builtin.append_ #[t,t] ty #[v,.slice a 0 c]).run P w=.ok v w:=by
 rcases hown.2 with⟨rfl,rfl⟩|⟨g,cap,cur,rfl,_,_,hnc,_⟩
 ·cases a<;>simp[Builtin.append_,run_underlying ht,sizeOf,typeInfo,hi,Builtin.lenOf,Builtin.firstCells,loadCells,loadCellsFrom]
 ·cases a<;>simp[Builtin.append_,run_underlying ht,sizeOf,typeInfo,hi,Builtin.lenOf,Builtin.firstCells,hnc,storeCells,loadCells,loadCellsFrom]
theorem IP{P:Program}{w:World}{o:Oper}{a:Act}{K:Act→World→Prop}{Q:Exit→Act→World→Prop}(s x:Operand)(t:TypeId)
 (ho:o.op=.call {callee:=.builtin .append,args:=#[s,x],argTypes:=#[t,t]})
 (base:Nat) (e:TypeId) (i:TypeInfo) (size:Nat) (ht:P.underlying t=some (.slice e)) (hi:P.info? e=some i)
 (v:Value) (n:Nat) (xs:List Value) (hs:a.eval s=v) (hown:w.ownsRow base e size v n xs) (ad:Option Addr) (c:Nat) (hx:a.eval x=.slice ad 0 c)
 (h:K (a.put o.dst v) w):o.wp P a w K Q:=by
 have hrun:=IN (P:=P) (w:=w) base t o.type e i size ht hi v n xs hown ad c;unfold Oper.wp;simp[execOp,ho,resolve,invoke,builtin,hs,hx,hrun,Result.andThen];exact h
theorem IQ{P:Program}(w:World){o:Oper}{a:Act}{K:Act→World→Prop}{Q:Exit→Act→World→Prop}
 (s x:Operand) (t:TypeId) (hop:o.op=Op.call {callee:=Callee.builtin Builtin.append,args:=#[s,x],argTypes:=#[t,t]})
 (e:TypeId) (i:TypeInfo) (z:Value) (size bytes:Nat) (h1:P.underlying t=some (.slice e)) (h2:P.info? e=some i) (h3:i.zero=some z) (h4:i.size=size) (h5:i.bytes=bytes) (h6:z.cells.size=size) (h7:0<size)
 (base g:Nat) (hO:w.ownsRow base e size (.slice (some ⟨g,0,none⟩) 0 0) 0 []) (hbase:base≤w.heap.size)
 (hs:a.eval s=.slice (some ⟨g,0,none⟩) 0 0) (ad:Option Addr) (m c:Nat) (xs:List Value) (hx:a.eval x=.slice ad m c) (hl:xs.length=m*size)
 (hr:0<m→∃bd off,ad=some ⟨bd,off,none⟩∧bd<w.heap.size∧∀(j:Nat) (u:Value),xs[j]?=some u→w.cell? ⟨bd,off+j,none⟩=some u) (hone:∀u∈xs,u.oneCell'=true) (hm:m≤maxLen) (hb:m*bytes≤140737488355328)
 (hK:∀v' w',w'.ownsRow base e size v' m xs→w.grownBy w' (some g)→K (a.put o.dst v') w'):o.wp P a w K Q:=by
 by_cases hp:0<m
 ·obtain⟨bd,off,rfl,hbd,hc⟩:=hr hp;refine wp_append_own w s x t hop base e i z size bytes h1 h2 h3 h4 h5 h6 h7 _ 0 [] hs hO ⟨bd,off,none⟩ m c xs hx hl (fun j u hj=>?_) hone (by omega) (by rw[Nat.zero_add];exact hb) hbase ?_
  ·rw[Addr.add_mid];exact hc j u hj
  ·intro v' w' r1 r2 _;rw[Nat.zero_add,List.nil_append] at r1;exact hK v' w' r1 r2
 ·obtain rfl:m=0:=by omega
  have hx0:xs=[]:=List.eq_nil_of_length_eq_zero (by omega);subst hx0;refine IP s x t hop base e i size h1 h2 _ 0 [] hs hO ad c hx ?_;exact hK _ _ hO (World.grownBy.refl _ _)
theorem Rd.IS{w:World}{a:Option Addr}{cap:Nat}{zs:List Int}(h:Rd .u8 w (.slice a zs.length cap) zs):0<zs.length→∃bd off,a=some ⟨bd,off,none⟩∧bd<w.heap.size∧∀(j:Nat) (u:Value),(zs.map (Value.int .u8))[j]?=some u→w.cell? ⟨bd,off+j,none⟩=some u:=by
 intro hn;obtain⟨bd,off,cp,e,hbw,_,_,hcell⟩:=h.dJ hn;injection e with e1 e2 e3;refine⟨bd,off,e1,hbw,fun j u hu=>?_⟩;rw[List.getElem?_map] at hu;have hj:j<zs.length:=by
  rcases Nat.lt_or_ge j zs.length with h|h
  ·exact h
  ·rw[List.getElem?_eq_none h] at hu;cases hu
 rw[hcell j hj];rw[List.getElem?_eq_getElem hj] at hu;simp at hu;rw[←hu];simp[getD,hj]
theorem Ag{P:Program}(w:World)(t e:TypeId)(a:Option Addr)(l c:Nat)(h:P.underlying t=some (.slice e)):(binOp .eql t (.slice a l c) (.slice none 0 0)).run P w=.ok (.bool a.isNone) w:=by
 simp[binOp,run_equal_slice_nil w t e a l c h]
theorem IT(v:Value)(zs:List Int)(w:World)(h:Rd .u8 w v zs)(hn:zs.length≤1048576):
 Calls prog 129 #[v] w fun e w'=>∃v',e=.returned v'∧w'.ownsRow w.heap.size 5 1 v' zs.length (zs.map (Value.int .u8))∧Below w.heap.size w w':=by
 obtain⟨i0,hi,hz0,hz1,hz2⟩:=info_parts eO;obtain⟨a,cap,rfl⟩:=Gk h;have HR:=aa h.IS;clear h;cases a with
 |none=>
  have hz:zs=[]:=by
   rcases Nat.eq_zero_or_pos zs.length with h0|h0
   ·exact List.eq_nil_of_length_eq_zero h0
   ·obtain⟨_,_,e,_⟩:=HR.out h0;cases e
  subst hz;go_enter func129,ntmps129;have hq:=fun w=>Ag (P:=prog) w 22 5 none 0 cap underlying22;go_wp2;go_ret;exact⟨_,rfl,⟨rfl,.inl ⟨rfl,rfl⟩⟩,ak⟩
 |some ad=>
  have HB:=ae (Below w.heap.size w (w.alloc (.cells #[] 5))) (ak.alloc aj _);have HO:=aa (IM w 5 1);have hq:=fun w=>Ag (P:=prog) w 22 5 (some ad) zs.length cap underlying22;go_enter func129,ntmps129;go_wp2_with (first|(at_builtin;refine wpList_plain rfl fun K hK=>?_;refine IQ (w.alloc (.cells #[] 5)) (.tmp 5) (.tmp 6) 22 rfl 5 i0 (.int .u8 0) 1 1 underlying22 hi hz0 hz1 hz2 rfl (by decide) w.heap.size w.heap.size HO.out HB.out.size rfl (some ad) zs.length cap (zs.map (Value.int .u8)) rfl (by simp) (fun hp=>by obtain⟨bd,off,e,hlt,hc⟩:=HR.out hp;exact⟨bd,off,e,Nat.lt_of_lt_of_le hlt HB.out.size,fun j u hu=>(HB.out.cell (p:=⟨bd,off+j,none⟩) hlt).trans (hc j u hu)⟩) (ints_oneCell _ _) (by unfold maxLen;omega) (by omega) ?_;intro v1 w1 o1 g1;refine hK _ _ ?_;have O1:=aa o1;have B1:=aa (HB.out.grown g1 HB.out.size (fun k e=>by cases e;exact aj));clear o1 g1)|fail);go_ret;exact⟨_,rfl,O1.out,B1.out⟩
def ko(W0 W:World)(fv:Value):Option (List Int)→Prop
 |none=>False
 |some L=>∃g a cap,fv=.func (.func 92) #[] #[.pointer (some ⟨g,0,none⟩)]∧W0.heap.size≤g∧af W g #[.slice a L.length cap] 45∧Rd .i64 W0 (.slice a L.length cap) L
def jJ:Option (List Int)→Int
 |none=> -1
 |some []=>0
 |some (x::_)=>x
def vi:Option (List Int)→Bool
 |none=>true
 |some []=>false
 |some (_::_)=>true
def rY:Option (List Int)→Option (List Int)
 |none=>none
 |some []=>some []
 |some (_::xs)=>some xs
theorem IU(g:Nat)(a:Option Addr)(cap:Nat)(w:World)(h:af w g #[.slice a 0 cap] 45):Calls prog 92 #[.pointer (some ⟨g,0,none⟩)] w fun e w'=>e=.returned (.tuple #[.int .i64 0,.bool false])∧w=w':=by
 have c0:=(h.cell 0).trans (show _=some (.slice a 0 cap) from rfl);clear h;go_enter func92,ntmps92;go_wp2;go_ret2;exact⟨rfl,rfl⟩
theorem IV(g bd off n cap:Nat)(x:Int)(w:World)(h:af w g #[.slice (some ⟨bd,off,none⟩) (n+1) cap] 45)(hc:n+1≤cap)(hm:cap≤maxLen)(hx:w.cell? ⟨bd,off,none⟩=some (.int .i64 x)):
 Calls prog 92 #[.pointer (some ⟨g,0,none⟩)] w fun e w'=>e=.returned (.tuple #[.int .i64 x,.bool true])∧∃a',(cap≠1→a'=some ⟨bd,off+1,none⟩)∧w'=w.setCell ⟨g,0,none⟩ (.slice a' n (cap-1)):=by
 have c0:=(h.cell 0).trans (show _=some (.slice (some ⟨bd,off,none⟩) (n+1) cap) from rfl);have f0:=h.frozen 0;unfold maxLen at hm;clear h;go_enter func92,ntmps92;by_cases hc1:cap=1
 ·subst hc1;obtain rfl:n=0:=by omega
  go_wp2;go_ret2;exact⟨rfl,_,fun h=>absurd rfl h,rfl⟩
 ·go_wp2;go_ret2;exact⟨rfl,_,fun _=>rfl,rfl⟩
def lp(x:Int×List Int):NE:=([.int .i64 x.1],x.2)
structure RD where
 tr:Array Value
 cv:Value
 Lo:Nat→List Int
 Ln:Nat→List Int
 P:List (Int×List Int)
 sh:Bool
 st:Option (List Int)
structure lW(W0 W:World)(b:Nat)(D:RD)(C:Array Value)(so sl:Nat→Value)(fv pv:Value)(vs:List Value):Prop where
 Ro:D.tr.size=16
 size:C.size=26
 tr:∀i,i<16→C[i]?=D.tr[i]?
 cv:C[16]?=some D.cv
 old:dP W W0.heap.size b 17 C 112 so D.Lo
 now:dP W W0.heap.size b 20 C 112 sl D.Ln
 apart:∀l m,l<3→m<3→(so l).ownBlock=none∨(so l).ownBlock≠(sl m).ownBlock
 fn:C[23]?=some fv
 sup:ko W0 W fv D.st
 ps:C[24]?=some pv
 dK:aZ W W0.heap.size 55 1 pv (D.P.map lp) vs
 sh:C[25]?=some (.bool D.sh)
 lo:W0.heap.size≤b
 low:Below W0.heap.size W0 W
def dW(W0 W:World)(b:Nat)(D:RD):Prop:=∃C so sl fv pv vs,lW W0 W b D C so sl fv pv vs
theorem ko.below{W0 W W':World}{fv:Value}{st:Option (List Int)}(h:ko W0 W fv st)(hb:Below W.heap.size W W'):ko W0 W' fv st:=by
 cases st with
 |none=>exact h
 |some L=>
  obtain⟨g,a,cap,h1,h2,h3,h4⟩:=h;exact⟨g,a,cap,h1,h2,h3.below hb h3.lt,h4⟩
theorem lW.below{W0 W W':World}{b:Nat}{D:RD}{C:Array Value}{so sl:Nat→Value}{fv pv:Value}{vs:List Value}(h:lW W0 W b D C so sl fv pv vs)(hb:Below W.heap.size W W'):lW W0 W' b D C so sl fv pv vs:=
 ⟨h.Ro,h.size,h.tr,h.cv,h.old.below hb,h.now.below hb,h.apart,h.fn,h.sup.below hb,h.ps,h.dK.below hb,h.sh,h.lo,h.low.trans (hb.mono h.low.size)⟩
theorem dW.below{W0 W W':World}{b:Nat}{D:RD}(h:dW W0 W b D)(hb:Below W.heap.size W W'):dW W0 W' b D:=by
 obtain⟨C,so,sl,fv,pv,vs,h⟩:=h;exact⟨C,so,sl,fv,pv,vs,h.below hb⟩
theorem dP.oy{T:TypeId→Prop}{W W':World}{base b off:Nat}{C C':Array Value}{t:TypeId}{sl:Nat→Value}{Ls:Nat→List Int}(h:dP W base b off C t sl Ls)(k:bP T W W')(hT:¬T 3)(hB:af W' b C' t)(hC:∀l,l<3→C'[off+l]?=C[off+l]?):dP W' base b off C' t sl Ls:=
 ⟨hB,fun l hl=>(hC l hl).trans (h.at_ l hl),fun l hl=>k.own (h.row l hl) hT,h.apart⟩
def gL(t:TypeId):Prop:=t=112∨t=45∨t=55
def dL(t:TypeId):Prop:=t=112∨t=45∨t=55∨t=3
theorem bP.rZ{T T':TypeId→Prop}{W W':World}(h:bP T W W')(hT:∀t,T t→T' t):bP T' W W':=fun b hb hn=>h b hb (fun c t s hc ht=>hn c t s hc (hT t ht))
def mL(w:World)(b X:Nat):Prop:=∀l,l<3→∀v,w.cell? ⟨b,20+l,none⟩=some v→v.ownBlock≠some X
def aS(b:Nat)(w w':World):Prop:=bP dL w w'∧(b<w.heap.size→b<w'.heap.size∧∀X C,af w X C 3→mL w b X→af w' X C 3∧mL w' b X)∧(w'.os=w.os∧w'.tape=w.tape∧w'.output=w.output∧w.heap.size≤w'.heap.size)
theorem aS.refl(b:Nat)(w:World):aS b w w:=⟨bP.refl _ _,fun h=>⟨h,fun X C h1 h2=>⟨h1,h2⟩⟩,rfl,rfl,rfl,aj⟩
theorem aS.trans{b:Nat}{w w' w2:World}(h:aS b w w')(k:aS b w' w2):aS b w w2:=
 ⟨h.1.trans k.1,fun hb=>by
  obtain⟨h1,h2⟩:=h.2.1 hb;obtain⟨k1,k2⟩:=k.2.1 h1;exact⟨k1,fun X C x1 x2=>k2 X C (h2 X C x1 x2).1 (h2 X C x1 x2).2⟩,k.2.2.1.trans h.2.2.1,k.2.2.2.1.trans h.2.2.2.1,k.2.2.2.2.1.trans h.2.2.2.2.1,aK h.2.2.2.2.2 k.2.2.2.2.2⟩
theorem aS.cV{b:Nat}{w w':World}(h:Below w.heap.size w w'):aS b w w':=
 ⟨(bP.refl _ _).below h,fun hb=>⟨Nat.lt_of_lt_of_le hb h.size,fun X C h1 h2=>⟨h1.below h h1.lt,fun l hl v hv=>h2 l hl v ((h.cell (p:=⟨b,20+l,none⟩) hb).symm.trans hv)⟩⟩,h.os,h.tape,h.output,h.size⟩
theorem aS.below{b:Nat}{w w' w2:World}(h:aS b w w')(k:Below w'.heap.size w' w2):aS b w w2:=h.trans (aS.cV k)
theorem aS.blk{b d:Nat}{w w':World}{C:Array Value}{t:TypeId}(h:aS b w w')(hB:af w d C t)(hT:¬dL t):af w' d C t:=h.1.blk hB hT
theorem aS.Ah{b:Nat}{w w':World}(h:bP gL w w'){n:Nat}(hs:Below n w w')(hc:∀l,l<3→w'.cell? ⟨b,20+l,none⟩=w.cell? ⟨b,20+l,none⟩):aS b w w':=
 ⟨h.rZ (fun t ht=>by unfold dL;unfold gL at ht;rcases ht with ht|ht|ht<;>simp[ht]),fun hb=>⟨Nat.lt_of_lt_of_le hb hs.size,fun X C h1 h2=>⟨h.blk h1 (by unfold gL;decide),fun l hl v hv=>h2 l hl v ((hc l hl).symm.trans hv)⟩⟩,hs.os,hs.tape,hs.output,hs.size⟩
theorem aS.kq{b n₀ z:Nat}{w0 w w':World}(h:aS b w w')(h1:Below n₀ w0 w)(h2:Below n₀ w0 w'):Kq n₀ z dL w w':=
 ⟨⟨h.2.2.1,h.2.2.2.1,h.2.2.2.2.1,h.2.2.2.2.2,fun k hk=>(h2.block k hk).trans (h1.block k hk).symm⟩,fun k cs t fr hk ht=>(h.1 k (Array.getElem?_eq_some_iff.1 hk).1 (fun c t' s hc=>by rw[hk] at hc;cases hc;exact ht)).trans hk,fun k o hz hk hc=>(h.1 k (Array.getElem?_eq_some_iff.1 hk).1 (fun c t' s hc'=>by rw[hk] at hc';cases hc';cases hc)).trans hk,h.2.2.2.2.2⟩
def RD.fresh(D:RD)(ys:List Int):RD:=if vi D.st=true then {D with P:=D.P++[(jJ D.st,ys)],st:=rY D.st} else {D with sh:=true,st:=rY D.st}
theorem IW:(prog.info? 55).map (fun i=>(i.zero,i.size,i.bytes))=some (some (.agg #[.int .i64 0,.slice none 0 0]),2,32):=by kernel_rfl
theorem aZ.IX{W:World}{base:Nat}{e:TypeId}{m:Nat}{v:Value}{L:List NE}{vs:List Value}(h:aZ W base e m v L vs){i:Nat}{u:Value}{b:Nat}(hu:vs[i]?=some u)(hb:u.ownBlock=some b):base≤b∧b<W.heap.size:=by
 have hi:i<L.length:=by rw[←h.len];exact(List.getElem?_eq_some_iff.1 hu).1
 exact(h.dat i u L[i] hu (List.getElem?_eq_getElem hi)).lt b hb
theorem IY(w:World)(C:Array Value)(t:TypeId):∀j u,C.toList[j]?=some u→(w.alloc (.cells C t)).cell? (Addr.add ⟨w.heap.size,0,none⟩ j)=some u:=by
 intro j u h;rw[Addr.add_mid,Nat.zero_add,(af.new w C t).cell j];simpa using h
theorem si{w:World}{b d:Nat}{C C':Array Value}{t t':TypeId}(h:af w b C t)(k:af w d C' t')(e:b=d):t=t':=by
 subst e;have h1:w.heap[b]?=some (.cells C t (0,0)):=h;have h2:w.heap[b]?=some (.cells C' t' (0,0)):=k;rw[h1] at h2;injection h2 with h2;injection h2 with _ h2 _
theorem Ai{w w1:World}{b g:Nat}{C G:Array Value}{t u:TypeId}{v:Value}(hw:w1=w.setCell ⟨g,0,none⟩ v)(hg:af w g G u)(h:af w b C t)(ht:t≠u):af w1 b C t:=by
 rw[hw];exact h.other _ _ (fun e=>ht (si h hg e))
theorem IZ{W:World}{bd off:Nat}{x:Int}{xs:List Int}{cap:Nat}{a':Option Addr}(h:Rd .i64 W (.slice (some ⟨bd,off,none⟩) (x::xs).length cap) (x::xs))(ha:cap≠1→a'=some ⟨bd,off+1,none⟩):Rd .i64 W (.slice a' xs.length (cap-1)) xs:=by
 obtain⟨bd',off',cap',e,h1,h2,h3,h4⟩:=h.dJ (by simp);injection e with e1 e2 e3;subst e3;rcases Nat.eq_zero_or_pos xs.length with h0|h0
 ·obtain rfl:xs=[]:=List.eq_nil_of_length_eq_zero h0;exact⟨a',cap-1,rfl,by simp,fun h=>absurd rfl h,by simp,by omega⟩
 ·simp at h2;have hc:=ha (by omega);subst hc;have hh:=Rd.mS 1 xs.length h h0 (by simp;omega);simpa using hh
theorem ko.I2{W0 W A E:World}{fv:Value}{L:List Int}{b:Nat}{C:Array Value}{v:Value}(h:ko W0 W fv (some L))(k:af A b C 112)(y:bP gL E (A.setCell ⟨b,24,none⟩ v))(y4:bP (fun t=>t=55) E A)(hb:Below W.heap.size W E):ko W0 (A.setCell ⟨b,24,none⟩ v) fv (some L):=by
 obtain⟨g,a,cap,h1,h2,h3,h4⟩:=h;have k3:=y4.blk (h3.below hb h3.lt) (by decide);exact⟨g,a,cap,h1,h2,k3.other _ _ (fun e=>absurd (si k3 k e) (by decide)),h4⟩
theorem Aj(W0 wA w:World)(b:Nat)(D:RD)(da:Option Addr)(n dc:Nat)(ys:List Int)(h:dW W0 wA b D)(hb:Below wA.heap.size wA w)(hn:n=ys.length)(hd:w.ownsRow wA.heap.size 5 1 (.slice da ys.length dc) ys.length (ys.map (Value.int .u8)))(hP:D.P.length≤100000):
 Calls prog 148 #[.pointer (some ⟨b,0,none⟩),.slice da n dc] w fun e w'=>e=.returned (.int .i64 (jJ D.st))∧dW W0 w' b (D.fresh ys)∧bP gL w w'∧Below W0.heap.size w w'∧(∀l,l<3→w'.cell? ⟨b,20+l,none⟩=w.cell? ⟨b,20+l,none⟩):=by
 obtain⟨tr,cv,Lo,Ln,P,sh,st⟩:=D;obtain⟨C,so,sl,fv,pv,vs,hA⟩:=h;have HA:=aa hA;have HS:=aa (hA.below hb);clear hA;obtain⟨i0,hi,hz0,hz1,hz2⟩:=info_parts IW;obtain⟨pa,pc,rfl⟩:=bO HS.out.dK.row;obtain⟨pn,hpn⟩:∃pn,pn=P.length:=⟨_,rfl⟩;have hP2:pn≤100000:=by rw[hpn];exact hP
 simp only[length_map, ←hpn] at HA HS;have c24:=(HS.out.now.box.cell 24).trans HS.out.ps;have c25:=(HS.out.now.box.cell 25).trans HS.out.sh;have f25:=HS.out.now.box.frozen 25;have c23:=(HS.out.now.box.cell 23).trans HS.out.fn;have HN:=aa hn;have UA:=aa hpn;clear hP hn hpn;cases st with
 |none=>
  exact absurd HS.out.sup (fun h=>h)
 |some L=>
  obtain⟨g,la,lc,rfl,hg,hgB,hgR⟩:=HS.out.sup;have HG:=aa (ai hg (ai hgB hgR));cases L with
  |nil=>
   clear hg hgB hgR;have hb0:af w g #[.slice la 0 lc] 45:=HG.out.2.1;have HB0:=aa hb0;clear hb0;have K5:=aa (HS.out.now.box.set 25 (.bool true));have Y5:=ae (bP gL w (w.setCell ⟨b,25,none⟩ (.bool true))) ((bP.refl _ _).setCell HS.out.now.box (.inl rfl));have B5:=ae (Below W0.heap.size w (w.setCell ⟨b,25,none⟩ (.bool true))) (ak.setCell (p:=⟨b,25,none⟩) HS.out.lo _);go_enter func148,ntmps148;go_wp2_with (first|(go_at_call 92;refine(IU _ _ _ _ HB0.out).mono ?_;rintro e w' ⟨rfl,rfl⟩)|fail);go_ret;refine⟨rfl,⟨C.setIfInBounds 25 (.bool true),so,sl,.func (.func 92) #[] #[.pointer (some ⟨g,0,none⟩)],.slice pa pn pc,vs,⟨HS.out.Ro,by rw[Array.size_setIfInBounds];exact HS.out.size,fun i hi=>?_,?_,?_,?_,HS.out.apart,?_,?_,?_,?_,?_,HS.out.lo,HS.out.low.trans B5.out⟩⟩,Y5.out,B5.out,fun l hl=>((K5.out.cell (20+l)).trans (getElem?_setIfInBounds_ne (by omega))).trans (HS.out.now.box.cell (20+l)).symm⟩
   ·rw[getElem?_setIfInBounds_ne (by omega)];exact HS.out.tr i hi
   ·rw[getElem?_setIfInBounds_ne (by omega)];exact HS.out.cv
   ·exact HS.out.old.oy Y5.out (by unfold gL;decide) K5.out (fun l hl=>getElem?_setIfInBounds_ne (by omega))
   ·exact HS.out.now.oy Y5.out (by unfold gL;decide) K5.out (fun l hl=>getElem?_setIfInBounds_ne (by omega))
   ·rw[getElem?_setIfInBounds_ne (by omega)];exact HS.out.fn
   ·exact⟨g,la,lc,rfl,HG.out.1,HB0.out.other _ _ (fun e=>absurd (si HB0.out HS.out.now.box e) (by decide)),HG.out.2.2⟩
   ·rw[getElem?_setIfInBounds_ne (by omega)];exact HS.out.ps
   ·exact(bP.setCell (T:=fun t=>t=112) (bP.refl _ _) HS.out.now.box rfl).pW HS.out.dK (by decide) (by decide)
   ·rw[Array.getElem?_setIfInBounds_self_of_lt (by have:=HS.out.size;omega)];rfl
  |cons x xs=>
   obtain⟨bd,off,cp,ee,hbw,hcl,hcm,hcell⟩:=hgR.dJ (by simp);injection ee with e1 e2 e3;subst e1 e3;have hgR0:=hgR;obtain⟨xl,hxl⟩:∃xl,xl=xs.length:=⟨_,rfl⟩;have hb0:af w g #[.slice (some ⟨bd,off,none⟩) (xl+1) lc] 45:=(by rw[hxl];exact HG.out.2.1);have HB0:=aa hb0;have HX:=ae (w.cell? ⟨bd,off,none⟩=some (.int .i64 x)) ((HS.out.low.cell (p:=⟨bd,off,none⟩) hbw).trans (by simpa using hcell 0 (by simp)));have Ry:=ae (xl+1≤lc) (by rw[hxl];simpa using hcl);have HXL:=aa hxl;have HCM:=aa hcm;clear hg hgB hgR hb0 hcell hcl e2 hxl hcm hgR0;go_enter func148,ntmps148;go_upto_region 1 with fail;go_wp2_with (go_at_call 92;fail);refine(IV g bd off xl lc x w HB0.out Ry.out HCM.out HX.out).mono ?_;rintro e w1 ⟨rfl,a1,ha1,hw1⟩;have XP:=ae (bP gL w w1) (by rw[hw1];exact(bP.refl _ _).setCell HB0.out (.inr (.inl rfl)));have HB1:=ae (Below W0.heap.size w w1) (by rw[hw1];exact ak.setCell (p:=⟨g,0,none⟩) HG.out.1 _);have Wi:=ae (ko W0 w1 (.func (.func 92) #[] #[.pointer (some ⟨g,0,none⟩)]) (some xs)) (⟨g,a1,lc-1,rfl,HG.out.1,by rw[hw1, ←HXL.out];exact HB0.out.set 0 _,IZ HG.out.2.2 ha1⟩);have QC:=ae (lW W0 w1 b {tr,cv,Lo,Ln,P,sh,st:=some xs} C so sl _ _ vs) (⟨HS.out.Ro,HS.out.size,HS.out.tr,HS.out.cv,HS.out.old.oy XP.out (by unfold gL;decide) (Ai hw1 HB0.out HS.out.now.box (by decide)) (fun l hl=>rfl),HS.out.now.oy XP.out (by unfold gL;decide) (Ai hw1 HB0.out HS.out.now.box (by decide)) (fun l hl=>rfl),HS.out.apart,HS.out.fn,Wi.out,HS.out.ps,(show bP (fun t=>t=45) w w1 by rw[hw1];exact(bP.refl _ _).setCell HB0.out rfl).pW HS.out.dK (by decide) (by decide),HS.out.sh,HS.out.lo,HS.out.low.trans HB1.out⟩);clear hw1 ha1 c23 c24 c25 f25 HX Ry HCM HXL HB0;go_upto_region 5 with fail;have hS1:=QC.out;have hsz1:wA.heap.size≤w1.heap.size:=aK hb.size HB1.out.size;have hlo1:=hS1.low.size;have c24:=(hS1.now.box.cell 24).trans hS1.ps;have HD1:=ae (w1.ownsRow wA.heap.size 5 1 (.slice da ys.length dc) ys.length (ys.map (Value.int .u8))) (XP.out.own hd (by unfold gL;decide));have B2:=ae (Below w1.heap.size w1 (w1.alloc (.cells #[.int .i64 x,.slice da n dc] 55))) (ak.alloc aj _);have S2:=aa (hS1.below B2.out);have R2:=aa S2.out.dK.row;rw[length_map, ←UA.out] at R2;clear hS1;go_wp2_with (first
    |(at_builtin;go_loud (refine wpList_append_own_at _ rfl (.tmp 24) (.tmp 28) 42 rfl W0.heap.size 55 i0 (.agg #[.int .i64 0,.slice none 0 0]) 2 32 underlying42 hi hz0 hz1 hz2 rfl (by decide) (.slice pa pn pc) pn _ rfl R2.out ⟨w1.heap.size,0,none⟩ 1 1 [.int .i64 x,.slice da n dc] rfl rfl (IY w1 #[.int .i64 x,.slice da n dc] 55) (by intro y hy;simp at hy;rcases hy with rfl|rfl<;>rfl) (by unfold maxLen;omega) (by omega) (by simp;omega) ?_;intro v4 w4 o4 g4 _ _;obtain⟨SM,SN,rfl⟩:=bO o4;have O4:=aa (ai o4 g4);have k4:af w4 b C 112:=(bP.pV (T:=fun t=>t=55) (bP.refl _ _) R2.out rfl g4).blk S2.out.now.box (by decide);have c4:=k4.cell 24;have f4:=k4.frozen 24;rw[Array.getElem?_eq_getElem (by have:=HS.out.size;omega)] at c4;have K4:=aa k4;clear o4 g4 k4))
    |fail)
   clear c4 f4;have Y4:=ae (bP (fun t=>t=55) (w1.alloc (.cells #[.int .i64 x,.slice da n dc] 55)) w4) ((bP.refl _ _).pV R2.out rfl O4.out.2);have A4:=ae (aZ w4 W0.heap.size 55 1 (.slice SM (pn+1) SN) ((P++[(x,ys)]).map lp) (vs++[.slice da n dc])) (by
    rw[List.map_append];show aZ _ _ _ _ _ (_++[lp (x,ys)]) _;have hh:=S2.out.dK.push (by decide) (lp (x,ys)) (.slice da n dc) rfl (by have:=cC (cH HD1.out (by have:=HA.out.low.size;omega)) B2.out;have e:=HN.out;subst e;exact this) (fun j x k hx hk e=>by have h1:=(HD1.out.lt k (by rw[←e,HN.out])).1;have h2:=(HA.out.dK.IX hx hk).2;omega) (by rw[length_map, ←UA.out];exact O4.out.1) O4.out.2;exact hh)
   have K5:=aa (K4.out.set 24 (.slice SM (pn+1) SN));have Y5:=ae (bP gL w (w4.setCell ⟨b,24,none⟩ (.slice SM (pn+1) SN))) (((XP.out.below B2.out).trans (Y4.out.rZ (fun t h=>.inr (.inr h)))).setCell K4.out (.inl rfl));have Y5b:=ae (bP (fun t=>t=112) w4 (w4.setCell ⟨b,24,none⟩ (.slice SM (pn+1) SN))) ((bP.refl _ _).setCell K4.out rfl);have Y5c:=ae (bP gL (w1.alloc (.cells #[.int .i64 x,.slice da n dc] 55)) (w4.setCell ⟨b,24,none⟩ (.slice SM (pn+1) SN))) ((Y4.out.rZ (fun t h=>.inr (.inr h))).setCell K4.out (.inl rfl));have B5:=ae (Below W0.heap.size w (w4.setCell ⟨b,24,none⟩ (.slice SM (pn+1) SN))) ((((HB1.out.trans (B2.out.mono (by omega))).grown O4.out.2 (by simp;omega) (fun r e=>(R2.out.lt r e).1))).setCell (p:=⟨b,24,none⟩) HS.out.lo _);go_wp2;go_ret;refine⟨rfl,⟨C.setIfInBounds 24 (.slice SM (pn+1) SN),so,sl,.func (.func 92) #[] #[.pointer (some ⟨g,0,none⟩)],.slice SM (pn+1) SN,vs++[.slice da n dc],⟨HS.out.Ro,by rw[Array.size_setIfInBounds];exact HS.out.size,fun i hi=>?_,?_,?_,?_,HS.out.apart,?_,?_,?_,?_,?_,HS.out.lo,HS.out.low.trans B5.out⟩⟩,Y5.out,B5.out,fun l hl=>((K5.out.cell (20+l)).trans (getElem?_setIfInBounds_ne (by omega))).trans (HS.out.now.box.cell (20+l)).symm⟩
   ·rw[getElem?_setIfInBounds_ne (by omega)];exact HS.out.tr i hi
   ·rw[getElem?_setIfInBounds_ne (by omega)];exact HS.out.cv
   ·exact S2.out.old.oy Y5c.out (by unfold gL;decide) K5.out (fun l hl=>getElem?_setIfInBounds_ne (by omega))
   ·exact S2.out.now.oy Y5c.out (by unfold gL;decide) K5.out (fun l hl=>getElem?_setIfInBounds_ne (by omega))
   ·rw[getElem?_setIfInBounds_ne (by omega)];exact HS.out.fn
   ·exact Wi.out.I2 K4.out Y5c.out Y4.out B2.out
   ·rw[Array.getElem?_setIfInBounds_self_of_lt (by have:=HS.out.size;omega)]
   ·exact Y5b.out.pW A4.out (by decide) (by decide)
   ·rw[getElem?_setIfInBounds_ne (by omega)];exact HS.out.sh
def RD.oz(D:RD)(l r:Nat)(x:Int):RD:={D with Ln:=aO D.Ln l (dD (D.Ln l) r x)}
theorem bP.num{w w':World}{b base n:Nat}{sv:Value}{C:Array Value}{xs:List Value}(h:fZ w w' b sv)(hb:af w b C 112)(ho:w.ownsRow base 3 1 sv n xs):bP (fun t=>t=112∨t=3) w w':=fun k hk hT=>by
 refine h.block k hk (fun e=>?_) (fun e=>?_)
 ·subst e;have hb':w.heap[k]?=some (.cells C 112):=hb;exact hT _ _ _ hb' (.inl rfl)
 ·obtain⟨_,C',hC⟩:=q7 ho e;have hb':w.heap[k]?=some (.cells C' 3):=hC;exact hT _ _ _ hb' (.inr rfl)
theorem fZ.Ja{w w':World}{b base n:Nat}{sv:Value}{xs:List Value}(h:fZ w w' b sv)(hb:base≤b)(hbs:base≤w.heap.size)(ho:w.ownsRow base 3 1 sv n xs):Below base w w':=
 ⟨h.os,h.tape,h.output,h.size,fun k hk=>h.block k (by omega) (by omega) (fun e=>by have:=(ho.lt k e).1;omega)⟩
theorem sj(W0 w:World)(b l r:Nat)(x:Int)(D:RD)(h:dW W0 w b D)(hl:l<3)(hr:r≤100000)(hL:(D.Ln l).length≤100001):
 Calls prog 124 #[.pointer (some ⟨b,20,none⟩),bh l r,.int .i64 x] w fun e w'=>e=.returned (.tuple #[])∧dW W0 w' b (D.oz l r x)∧aS b w w'∧Below W0.heap.size w w':=by
 obtain⟨C,so,sl,fv,pv,vs,hS⟩:=h;refine(uy b 20 l r C 112 sl D.Ln x W0.heap.size w hS.now hl hr hL (by decide) hS.low.size).mono ?_;rintro e w' ⟨rfl,sw,h1,h2,h3⟩;have hk:=bP.num h2 hS.now.box (hS.now.row l hl);have hB:=h2.Ja hS.lo hS.low.size (hS.now.row l hl);refine⟨rfl,⟨C.setIfInBounds (20+l) sw,so,aO sl l sw,fv,pv,vs,⟨hS.Ro,by rw[Array.size_setIfInBounds];exact hS.size,fun i hi=>?_,?_,?_,h1,?_,?_,?_,?_,?_,?_,hS.lo,hS.low.trans hB⟩⟩,⟨hk.rZ (fun t ht=>by unfold dL;rcases ht with ht|ht<;>simp[ht]),fun hbl=>⟨Nat.lt_of_lt_of_le hbl h2.size,fun X E e1 e2=>⟨(h2.block X e1.lt (fun e=>absurd (si e1 hS.now.box e) (by decide)) (e2 l hl _ ((hS.now.box.cell _).trans (hS.now.at_ l hl)))).trans e1,fun m hm v hv=>?_⟩⟩,h2.os,h2.tape,h2.output,h2.size⟩,hB⟩
 ·rw[getElem?_setIfInBounds_ne (by omega)];exact hS.tr i hi
 ·rw[getElem?_setIfInBounds_ne (by omega)];exact hS.cv
 ·exact⟨h1.box,fun m hm=>by rw[getElem?_setIfInBounds_ne (by omega)];exact hS.old.at_ m hm,fun m hm=>h2.own (hS.old.row m hm) (jB (hS.old.row m hm) hS.now.box (by decide)) (hS.apart m l hm hl),hS.old.apart⟩
 ·intro m k hm hk';by_cases e:k=l
  ·subst e;rw[bY];rcases h3 with h3|⟨g,h3,hg⟩
   ·rw[h3];exact hS.apart m k hm hk'
   ·refine .inr (fun e=>?_);rw[h3] at e;have:=((hS.old.row m hm).lt g e).2;omega
  ·rw[aU _ _ _ _ e];exact hS.apart m k hm hk'
 ·rw[getElem?_setIfInBounds_ne (by omega)];exact hS.fn
 ·have hs:=hS.sup;show ko W0 w' fv D.st;cases hst:D.st with
  |none=>rw[hst] at hs;exact hs
  |some L=>
   rw[hst] at hs;obtain⟨g,a,cap,e1,e2,e3,e4⟩:=hs;exact⟨g,a,cap,e1,e2,hk.blk e3 (by decide),e4⟩
 ·rw[getElem?_setIfInBounds_ne (by omega)];exact hS.ps
 ·exact hk.pW hS.dK (by decide) (by decide)
 ·rw[getElem?_setIfInBounds_ne (by omega)];exact hS.sh
 ·rw[h1.box.cell (20+m)] at hv;by_cases e:m=l
  ·subst e;rw[Array.getElem?_setIfInBounds_self_of_lt (by have:=hS.size;omega)] at hv;cases hv
   rcases h3 with h3|⟨g,h3,hg⟩
   ·rw[h3];exact e2 m hm _ ((hS.now.box.cell _).trans (hS.now.at_ m hm))
   ·rw[h3];intro e';cases e'
    have:=e1.lt;omega
  ·rw[getElem?_setIfInBounds_ne (by omega)] at hv;exact e2 m hm v ((hS.now.box.cell _).trans hv)
theorem Ak(W0 w:World)(b l r:Nat)(D:RD)(h:dW W0 w b D)(hl:l<3)(hr:r≤100000):
 Calls prog 94 #[.pointer (some ⟨b,17,none⟩),bh l r] w fun e w'=>e=.returned (.int .i64 ((D.Lo l).getD r 0))∧Below w.heap.size w w':=by
 obtain⟨C,so,sl,fv,pv,vs,hS⟩:=h;exact kW b 17 l r C 112 so D.Lo W0.heap.size w hS.old hl hr
theorem Jb(m:Nat)(ms:List Int)(w:World)(h:af w m (ms.map (Value.int .u8)).toArray 229)(hl:ms.length=512):
 Calls prog 128 #[.pointer (some ⟨m,0,none⟩)] w fun e w'=>∃v',e=.returned v'∧w'.ownsRow w.heap.size 5 1 v' ms.length (ms.map (Value.int .u8))∧Below w.heap.size w w':=by
 have HR:=aa (yU (n:=512) h hl.symm (by omega));have HL:=aa hl;clear h hl;go_enter func128,ntmps128;go_wp2_with (go_at_call 129;refine(IT _ ms _ HR.out (by rw[HL.out];omega)).mono ?_;rintro e w1 ⟨v1,rfl,o1,b1⟩;have O1:=aa (ai o1 b1);clear o1 b1);go_ret;exact⟨_,rfl,O1.out.1,O1.out.2⟩
def RD.place(D:RD)(l r:Nat)(z:Bool)(ys:List Int):RD:=if z=true then D.oz l r 0 else(D.fresh ys).oz l r (jJ D.st)
theorem Al(D:RD)(ys:List Int):(D.fresh ys).Ln=D.Ln:=by unfold RD.fresh;split<;>rfl
theorem dX{w:World}{b:Nat}{t:TypeId}{x y:Value}(h:af w b #[x,y] t):w.rangeAt b 0 [x,y]:=by
 intro j v hj;match j,hj with
 |0,hj=>rw[h.cell (0+0)];simpa using hj
 |1,hj=>rw[h.cell (0+1)];simpa using hj
 |k+2,hj=>simp at hj
end
end Go.Proofs.YtpplnhkpcpieoaaGreatDoor
