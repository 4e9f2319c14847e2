/- The program's renewal: a number set, an old one looked up -/
import Derived.Test.YtbhpealglhkodaaGreatDoorXc24
import Derived.ChangeKeysEq
namespace Go.Proofs.YtbhpealglhkodaaGreatDoor
set_option linter.all false
set_option maxRecDepth 100000
set_option maxHeartbeats 16000000
section
open Go.RowKit
def RD.setNow(D:RD)(l r:Nat)(x:Int):RD:={D with Ln:=upd D.Ln l (setN (D.Ln l) r x)}
theorem KpY.num{w w':World}{b base n:Nat}{sv:Value}{C:Array Value}{xs:List Value}(h:NumF w w' b sv)(hb:Blk w b C 79)(ho:w.ownsRow base 3 1 sv n xs):KpY (fun t=>t=79∨t=3) w w':=fun k hk hT=>by
 refine h.block k hk (fun e=>?_) (fun e=>?_)
 ·subst e;have hb':w.heap[k]?=some (.cells C 79):=hb;exact hT _ _ _ hb' (.inl rfl)
 ·obtain⟨_,C',hC⟩:=own_rowB ho e;have hb':w.heap[k]?=some (.cells C' 3):=hC;exact hT _ _ _ hb' (.inr rfl)
theorem NumF.belowR{w w':World}{b base n:Nat}{sv:Value}{xs:List Value}(h:NumF w w' b sv)(hb:base≤b)(hbs:base≤w.heap.size)(ho:w.ownsRow base 3 1 sv n xs):Below base w w':=
 ⟨h.os,h.tape,h.output,h.size,fun k hk=>h.block k (by omega) (by omega) (fun e=>by have:=(ho.lt k e).1;omega)⟩
theorem setR_any(W0 w:World)(b l r:Nat)(x:Int)(D:RD)(h:RSt W0 w b D)(hl:l<3)(hr:r≤100000)(hL:(D.Ln l).length≤100001):
 Calls Tryz.prog 85 #[.pointer (some ⟨b,20,none⟩),spotV l r,.int .i64 x] w fun e w'=>e=.returned (.tuple #[])∧RSt W0 w' b (D.setNow l r x)∧FrR b w w'∧Below W0.heap.size w w':=by
 obtain⟨C,so,sl,fv,pv,vs,hS⟩:=h;refine(setS2_any b 20 l r C 79 sl D.Ln x W0.heap.size w hS.now hl hr hL (by decide) hS.low.size).mono ?_;rintro e w' ⟨rfl,sw,h1,h2,h3⟩;have hk:=KpY.num h2 hS.now.box (hS.now.row l hl);have hB:=h2.belowR hS.lo hS.low.size (hS.now.row l hl);refine⟨rfl,⟨C.setIfInBounds (20+l) sw,so,upd sl l sw,fv,pv,vs,⟨hS.trs,by rw[Array.size_setIfInBounds];exact hS.size,fun i hi=>?_,?_,?_,h1,?_,?_,?_,?_,?_,?_,hS.lo,hS.low.trans hB⟩⟩,⟨hk.weaker (fun t ht=>by unfold TyR;rcases ht with ht|ht<;>simp[ht]),fun hbl=>⟨Nat.lt_of_lt_of_le hbl h2.size,fun X E e1 e2=>⟨(h2.block X e1.lt (fun e=>absurd (blk_same e1 hS.now.box e) (by decide)) (e2 l hl _ ((hS.now.box.cell _).trans (hS.now.at_ l hl)))).trans e1,fun m hm v hv=>?_⟩⟩,h2.os,h2.tape,h2.output,h2.size⟩,hB⟩
 ·rw[Array.getElem?_setIfInBounds_ne (by omega)];exact hS.tr i hi
 ·rw[Array.getElem?_setIfInBounds_ne (by omega)];exact hS.cv
 ·exact⟨h1.box,fun m hm=>by rw[Array.getElem?_setIfInBounds_ne (by omega)];exact hS.old.at_ m hm,fun m hm=>h2.own (hS.old.row m hm) (blk_off (hS.old.row m hm) hS.now.box (by decide)) (hS.apart m l hm hl),hS.old.apart⟩
 ·intro m k hm hk';by_cases e:k=l
  ·subst e;rw[upd_same];rcases h3 with h3|⟨g,h3,hg⟩
   ·rw[h3];exact hS.apart m k hm hk'
   ·refine .inr (fun e=>?_);rw[h3] at e;have:=((hS.old.row m hm).lt g e).2;omega
  ·rw[upd_other _ _ _ _ e];exact hS.apart m k hm hk'
 ·rw[Array.getElem?_setIfInBounds_ne (by omega)];exact hS.fn
 ·have hs:=hS.sup;show Sup W0 w' fv D.st;cases hst:D.st with
  |none=>rw[hst] at hs;exact hs
  |some L=>
   rw[hst] at hs;obtain⟨g,a,cap,e1,e2,e3,e4⟩:=hs;exact⟨g,a,cap,e1,e2,hk.blk e3 (by decide),e4⟩
 ·rw[Array.getElem?_setIfInBounds_ne (by omega)];exact hS.ps
 ·exact hk.ownN hS.puts (by decide) (by decide)
 ·rw[Array.getElem?_setIfInBounds_ne (by omega)];exact hS.sh
 ·rw[h1.box.cell (20+m)] at hv;by_cases e:m=l
  ·subst e;rw[Array.getElem?_setIfInBounds_self_of_lt (by have:=hS.size;omega)] at hv;cases hv
   rcases h3 with h3|⟨g,h3,hg⟩
   ·rw[h3];exact e2 m hm _ ((hS.now.box.cell _).trans (hS.now.at_ m hm))
   ·rw[h3];intro e';cases e'
    have:=e1.lt;omega
  ·rw[Array.getElem?_setIfInBounds_ne (by omega)] at hv;exact e2 m hm v ((hS.now.box.cell _).trans hv)
theorem atOld_any(W0 w:World)(b l r:Nat)(D:RD)(h:RSt W0 w b D)(hl:l<3)(hr:r≤100000):
 Calls Tryz.prog 69 #[.pointer (some ⟨b,17,none⟩),spotV l r] w fun e w'=>e=.returned (.int .i64 ((D.Lo l).getD r 0))∧Below w.heap.size w w':=by
 obtain⟨C,so,sl,fv,pv,vs,hS⟩:=h;exact atS_any b 17 l r C 79 so D.Lo W0.heap.size w hS.old hl hr
end
section
open Go.RowKit
section
variable {P:Program}
theorem part_one(w:World){e:TypeId}{k:IntKind}(he:P.underlying e=some (.int k)){xs:Array Value}{off:Nat}{v:Value}(hx:xs[off]?=some v):(part e xs off).run P w=.ok v w:=by
 simp[part,isAgg,run_underlying he,hx]
theorem part_many(w:World){t:TypeId}{d:TypeDesc}{i:TypeInfo}(hu:P.underlying t=some d)(hd:(match d with|.struct _|.array _ _=>true|_=>false)=true)(hi:P.info? t=some i)(xs:Array Value)(off:Nat):
 (part t xs off).run P w=.ok (.agg (xs.extract off (off+P.cellsOf t))) w:=by
 cases d<;>simp at hd<;>simp[part,isAgg,run_underlying hu,run_sizeOf w hi]
theorem eqFields_cons (w:World) {d:Nat} {xs ys:Array Value} {f:Field} {fs:List Field} {a b:Value} {r r':Bool} (hn:f.name≠ "_") (h1:(part f.type xs f.offset).run P w=.ok a w) (h2:(part f.type ys f.offset).run P w=.ok b w)
 (h3:(Op.equalIn d f.type a b).run P w=.ok r w) (h4:(Op.eqFields d xs ys fs).run P w=.ok r' w):(Op.eqFields d xs ys (f::fs)).run P w=.ok (r&&r') w:=by
 simp only[Op.eqFields,hn,ne_eq,not_false_eq_true,if_true,Sem.run_bind,h1,h2,h3,Result.andThen_ok];cases r
 ·simp
 ·simpa using h4
theorem eqItems_cons(w:World){d:Nat}{e:TypeId}{c:Nat}{xs ys:Array Value}{i:Nat}{is:List Nat}{a b:Value}{r r':Bool}(h1:(part e xs (i*c)).run P w=.ok a w)(h2:(part e ys (i*c)).run P w=.ok b w)
 (h3:(Op.equalIn d e a b).run P w=.ok r w) (h4:(Op.eqItems d e c xs ys is).run P w=.ok r' w):(Op.eqItems d e c xs ys (i::is)).run P w=.ok (r&&r') w:=by
 simp only[Op.eqItems,Sem.run_bind,h1,h2,h3,Result.andThen_ok];cases r
 ·simp
 ·simpa using h4
theorem eqItems_ints(w:World)(d:Nat){e:TypeId}(he:P.underlying e=some (.int .i64))(xs ys:List Int):∀(is:List Nat),(∀i∈is,i<xs.length∧i<ys.length)→
 (Op.eqItems (d+1) e 1 (cellsI xs) (cellsI ys) is).run P w=.ok (is.all fun i=>xs.getD i 0==ys.getD i 0) w
 |[],_=>by simp[Op.eqItems]
 |i::is,h=>by
  have hi:=h i (by simp);exact eqItems_cons w (part_one w he (by rw[Nat.mul_one];exact cellsI_get xs i hi.1)) (part_one w he (by rw[Nat.mul_one];exact cellsI_get ys i hi.2)) (run_equalIn_int w d e .i64 .i64 _ _ he) (eqItems_ints w d he xs ys is (fun j hj=>h j (by simp[hj])))
end
theorem cellsT_int:Tryz.prog.cellsOf 3=1:=by kernel_rfl
theorem cellsT_12:Tryz.prog.cellsOf 23=12:=by kernel_rfl
theorem structRoot:Tryz.prog.underlying 27=some (.struct (Tryz.prog.fieldsOf 27)):=by unfold Program.fieldsOf;rw[Tryz.underlying27]
theorem heldRoot:Tryz.prog.stoodInHeld 27=false:=by kernel_rfl
end
section
open Go.RowKit
theorem cellsA_get(k:IntKind)(xs:List Int)(i:Nat)(h:i<xs.length):((xs.map (Value.int k)).toArray)[i]?=some (.int k (xs.getD i 0)):=by
 simp[List.getD,h]
theorem allA(n:Nat)(xs ys:List Int)(hx:xs.length=n)(hy:ys.length=n):((List.range n).all fun i=>xs.getD i 0==ys.getD i 0)=decide (xs=ys):=by
 rw[Bool.eq_iff_iff];simp only[List.all_eq_true,List.mem_range,beq_iff_eq,decide_eq_true_eq];constructor
 ·intro h;apply List.ext_getElem (by omega);intro i h1 h2;have:=h i (by omega);simpa [List.getD,h1,h2] using this
 ·rintro rfl i _;rfl
theorem guardA_B:Tryz.prog.eqGuardType Tryz.prog.depth 150=false:=by kernel_rfl
theorem cellsOfA_B:Tryz.prog.cellsOf 5=1:=by kernel_rfl
theorem eqItemsA_B(w:World)(d:Nat)(xs ys:List Int):∀(is:List Nat),(∀i∈is,i<xs.length∧i<ys.length)→
 (Op.eqItems (d+1) 5 1 (xs.map (Value.int .u8)).toArray (ys.map (Value.int .u8)).toArray is).run Tryz.prog w=.ok (is.all fun i=>xs.getD i 0==ys.getD i 0) w
 |[],_=>by simp[Op.eqItems]
 |i::is,h=>by
  have hi:=h i (by simp);exact eqItems_cons w (part_one w Tryz.underlying5 (by rw[Nat.mul_one];exact cellsA_get .u8 xs i hi.1)) (part_one w Tryz.underlying5 (by rw[Nat.mul_one];exact cellsA_get .u8 ys i hi.2)) (run_equalIn_int w d 5 .u8 .u8 _ _ Tryz.underlying5) (eqItemsA_B w d xs ys is (fun j hj=>h j (by simp[hj])))
theorem eqArr_B(w:World)(xs ys:List Int)(hx:xs.length=512)(hy:ys.length=512):(Op.equalIn 10000 150 (.agg (xs.map (Value.int .u8)).toArray) (.agg (ys.map (Value.int .u8)).toArray)).run Tryz.prog w=.ok (decide (xs=ys)) w:=by
 obtain⟨i0,hi,hz0,hz1,hz2⟩:=info_parts infoU8;rw[run_equalIn_array w 9999 _ _ Tryz.underlying150 hi,cellsOfA_B,eqItemsA_B w 9998 xs ys (List.range 512) (by intro i hi;simp at hi;omega),allA 512 xs ys hx hy]
theorem guardA_W:Tryz.prog.eqGuardType Tryz.prog.depth 154=false:=by kernel_rfl
theorem cellsOfA_W:Tryz.prog.cellsOf 3=1:=by kernel_rfl
theorem eqItemsA_W(w:World)(d:Nat)(xs ys:List Int):∀(is:List Nat),(∀i∈is,i<xs.length∧i<ys.length)→
 (Op.eqItems (d+1) 3 1 (xs.map (Value.int .i64)).toArray (ys.map (Value.int .i64)).toArray is).run Tryz.prog w=.ok (is.all fun i=>xs.getD i 0==ys.getD i 0) w
 |[],_=>by simp[Op.eqItems]
 |i::is,h=>by
  have hi:=h i (by simp);exact eqItems_cons w (part_one w Tryz.underlying3 (by rw[Nat.mul_one];exact cellsA_get .i64 xs i hi.1)) (part_one w Tryz.underlying3 (by rw[Nat.mul_one];exact cellsA_get .i64 ys i hi.2)) (run_equalIn_int w d 3 .i64 .i64 _ _ Tryz.underlying3) (eqItemsA_W w d xs ys is (fun j hj=>h j (by simp[hj])))
theorem eqArr_W(w:World)(xs ys:List Int)(hx:xs.length=128)(hy:ys.length=128):(Op.equalIn 10000 154 (.agg (xs.map (Value.int .i64)).toArray) (.agg (ys.map (Value.int .i64)).toArray)).run Tryz.prog w=.ok (decide (xs=ys)) w:=by
 obtain⟨i0,hi,hz0,hz1,hz2⟩:=info_parts infoI64;rw[run_equalIn_array w 9999 _ _ Tryz.underlying154 hi,cellsOfA_W,eqItemsA_W w 9998 xs ys (List.range 128) (by intro i hi;simp at hi;omega),allA 128 xs ys hx hy]
theorem wpList_eqlA{P:Program}{ops:Array Oper}{rest:List Oper}{o:Oper}{a:Act}{w:World}{Q:Exit→Act→World→Prop}(hw:Region.wanted o (yielded ops a.tmps)=true)(t u:TypeId)(x y:Operand)(ho:o.op=.binOp .eql t x y u)
 (cs ds:Array Value) (hx:a.eval x=.agg cs) (hy:a.eval y=.agg ds) (hm:P.eqGuardType P.depth t=false) (b:Bool) (hE:(Op.equalIn 10000 t (.agg cs) (.agg ds)).run P w=.ok b w)
 (h:wpList P ops Q rest (a.put o.dst (.bool b)) w):wpList P ops Q (o::rest) a w:=
 Go.BigFrame.wpList_want hw fun K hK=>by
  have hrun:(execOp a.eval o).run P w=.ok (.value (.bool b)) w:=by
   simp[execOp,ho,hx,hy,run_eqGuard_agg w _ _ _ _ _ _ hm,run_eql_struct,hE,Result.andThen]
  unfold Oper.wp;rw[hrun,Oper.upon_value];exact hK _ _ h
theorem zerosA(n:Nat)(k:IntKind):((List.replicate n (0:Int)).map (Value.int k)).toArray=Array.replicate n (.int k 0):=by simp
theorem letBkZ:∃Z:Array Value,Z=((List.replicate 512 (0:Int)).map (Value.int .u8)).toArray∧∀(ρ:Operand→Value) (o:Oper) (w:World),o.op=.alloc 150→(execOp ρ o).run Tryz.prog w=.ok (.value (.pointer (some ⟨w.heap.size,0,none⟩))) (w.alloc (.cells Z 150)):=
 ⟨_,rfl,fun ρ o w ho=>by rw[show((List.replicate 512 (0:Int)).map (Value.int .u8)).toArray=zBk from zerosA 512 .u8];simp[execOp,ho,allocBk,Result.andThen]⟩
theorem letBwZ:∃Z:Array Value,Z=((List.replicate 128 (0:Int)).map (Value.int .i64)).toArray∧∀(ρ:Operand→Value) (o:Oper) (w:World),o.op=.alloc 154→(execOp ρ o).run Tryz.prog w=.ok (.value (.pointer (some ⟨w.heap.size,0,none⟩))) (w.alloc (.cells Z 154)):=
 ⟨_,rfl,fun ρ o w ho=>by rw[show((List.replicate 128 (0:Int)).map (Value.int .i64)).toArray=zBw from zerosA 128 .i64];simp[execOp,ho,allocBw,Result.andThen]⟩
theorem rd_arr{w:World}{m n:Nat}{k:IntKind}{t:TypeId}{ms:List Int}(h:Blk w m (ms.map (Value.int k)).toArray t)(hn:n=ms.length)(hl:ms.length≤1048576):Rd k w (.slice (some ⟨m,0,none⟩) n n) ms:=by
 subst hn;refine⟨some ⟨m,0,none⟩,ms.length,rfl,by unfold maxLen;omega,fun _=>⟨m,0,rfl,h.lt,fun i hi=>?_⟩,Nat.le_refl _,by unfold maxLen;omega⟩;rw[Nat.zero_add,h.cell i];exact cellsA_get k ms i hi
theorem told_ok(v:Value)(w:World):Calls Tryz.prog 50 #[v,.nilIface] w fun e w'=>e=.returned (.tuple #[v,.int .i64 0])∧w=w':=by
 go_enter Tryz.func50,Tryz.ntmps50;go_wp2;go_ret2;exact⟨rfl,rfl⟩
theorem told_bad(v ev:Value)(n lo:Nat)(c:Int)(w:World)(hv:Flt w lo n ev c)(hg:ErrT w):
 Calls Tryz.prog 50 #[v,ev] w fun e w'=>e=.returned (.tuple #[.slice none 0 0,.int .i64 c])∧Below w.heap.size w w':=by
 obtain⟨t',x',rfl⟩:=hv.iface;have HV:=hide (And.intro hv hg);clear hv hg;go_enter Tryz.func50,Tryz.ntmps50;go_wp2_with (go_at_call 36;refine(codeOf_any n _ c lo _ HV.out.1 HV.out.2).mono ?_;rintro e w' ⟨rfl,hb⟩);go_ret2;exact⟨rfl,hb⟩
def bytesM(ws:List Int):List Int:=ws.flatMap fun v=>le 4 (v%4294967296).toNat
theorem bytesM_take(ws:List Int)(k:Nat)(h:k<ws.length):bytesM (ws.take (k+1))=bytesM (ws.take k)++le 4 (ws.getD k 0%4294967296).toNat:=by
 unfold bytesM;rw[List.take_succ_eq_append_getElem h,List.flatMap_append];simp[List.getD,h]
theorem bytesM_eq(ws:List Int)(h:ws.all okW=true):bytesM ws=bytesW ws:=by
 unfold bytesM bytesW;induction ws with
 |nil=>rfl
 |cons v ws ih=>
  rw[List.all_cons,Bool.and_eq_true] at h;rw[List.flatMap_cons,List.flatMap_cons,ih h.2];have:=h.1;simp only[okW,Bool.and_eq_true,decide_eq_true_eq] at this;rw[Int.emod_eq_of_lt this.1 (by omega)]
theorem implW_any(v:Value)(ws:List Int)(w:World)(h:Rd .i64 w v ws)(hg:ErrT w):
 Calls Tryz.prog 111 #[v] w fun e w'=>∃v',e=.returned (.tuple #[v',.int .i64 (codeW ws)])∧w'.ownsRow w.heap.size 5 1 v' (encW ws).length ((encW ws).map (Value.int .u8))∧Below w.heap.size w w':=by
 obtain⟨i0,hi,hz0,hz1,hz2⟩:=info_parts infoU8;have hm:=h.len;unfold maxLen at hm;have hb0:Below w.heap.size w (w.alloc (.cells #[.int .i64 7,.nilIface] 136)):=(Below.refl _ _).alloc (Nat.le_refl _) _;have hck:=hide (Ck.fresh w 7 136);have HG:=hide hg;clear hg;by_cases hlen:ws.length=128
 ·rcases h.parts with⟨a,cap,rfl,hlow⟩|⟨b,off,cap,rfl,hbw,hcell⟩
  ·omega
  ·have HN:Hid (ws.length=128):=hlen;rw[hlen] at hcell⊢;clear h hlen hm;go_enter Tryz.func111,Tryz.ntmps111;go_wp2_with fail;refine(need_any w.heap.size (w.heap.size+1) _ 7 true true _ hck.out (by omega) (by simp)).mono ?_;rintro e w1 ⟨rfl,hc1,ht1⟩;have hbw1:=ht1.under hb0 (Nat.le_refl _) (by simp);have hB1:=hc1.lt;have e1:w1.cell? ⟨w.heap.size,1,none⟩=some .nilIface:=by
    obtain⟨_,_,ev,e2,e3⟩:=hc1;rcases e3 with⟨_,rfl⟩|⟨e3,_⟩
    ·exact e2
    ·cases e3
   have HC1:=hide (hc1.relo (lo':=w1.heap.size+1));have HB1:=hide hbw1;clear hc1 ht1 hck hb0 hbw1;go_wp2_with (refine wpList_make_own _ rfl _ _ 22 rfl w1.heap.size 5 i0 (.int .u8 0) 1 Tryz.underlying22 hi hz0 hz1 .i64 .i64 512 512 rfl rfl rfl (by rw[hz2];omega) (by unfold maxLen;omega) (Nat.le_refl _) ?_;intro w2 hown2 hgr2);have hs2:=hgr2.size;have hG2:=(hown2.lt w1.heap.size rfl).2;have HB2:=hide (HB1.out.grown hgr2 (by omega) (fun k h=>by cases h));have HC2:=hide (HC1.out.keep (hgr2.block w.heap.size hB1 (by simp)) (fun k hk _=>hgr2.block k hk (by simp)));clear hgr2 HB1 HC1 e1;go_loopw [5,22] (fun o i wr=>∃k:Nat,k≤128∧i=.int .i64 k∧o=.slice (some ⟨w1.heap.size,0,none⟩) (4*k) 512∧w1.heap.size<wr.heap.size∧wr.ownsRow w1.heap.size 5 1 (.slice (some ⟨w1.heap.size,0,none⟩) (4*k) 512) (4*k) ((bytesM (ws.take k)).map (Value.int .u8))∧Ck wr w.heap.size (w1.heap.size+1) 7 ((ws.take k).all okW)∧Below w.heap.size w wr) (fun _ i _=>128-(intOf i).toNat)
   case atStart=>exact⟨0,by omega,rfl,rfl,hG2,by simpa [bytesM] using hown2,by simpa using HC2.out,HB2.out⟩
   case round=>
    clear hown2 HC2 HB2 hs2 hG2;obtain⟨k,hk,rfl,rfl,hGr,hown,hck,hb⟩:=hrel;by_cases hlt:k<128
    ·have hkl:k<ws.length:=(by rw[HN.out];exact hlt);have c1:wr.cell? ⟨b,off+k,none⟩=some (.int .i64 (ws.getD k 0)):=(hb.cell (p:=⟨b,off+k,none⟩) hbw).trans (hcell k hlt);have HT:=hide (And.intro (bytesM_take ws k hkl) (all_take ws k hkl));clear hcell hkl;generalize ws.getD k 0=z at c1 HT;obtain⟨q,hq⟩:∃q:Nat,z%4294967296=(q:Int):=⟨(z%4294967296).toNat,by omega⟩;have hql:q<4294967296:=(by omega);rw[hq,Int.toNat_natCast] at HT;have HK:=hide (And.intro hck (And.intro hown hb));clear hck hown hb;go_wp2_with fail;refine(within_any w.heap.size (w1.heap.size+1) _ 7 z 0 4294967295 _ _ HK.out.1 (by omega) (by omega)).mono ?_;rintro e w3 ⟨rfl,hc3,ht3⟩;have ho3:=HK.out.2.1.kept ht3.1 (.inr (by simp[Value.ownBlock];omega));have hs3:=ht3.1.size;have HB3:=hide (ht3.under HK.out.2.2 (Nat.le_refl _) (by omega));have HC3:=hide hc3;clear hc3 ht3 HK;go_wp2_with fail;refine(lay32_any w1.heap.size w1.heap.size (4*k) 512 q _ _ ho3 (by omega) (by omega) hql).mono ?_;rintro e w4 ⟨rfl,ho4,hg4⟩;have hs4:=hg4.size;have HW:=hide (show w4.ownsRow w1.heap.size 5 1 (.slice (some ⟨w1.heap.size,0,none⟩) (4*(k+1)) 512) (4*(k+1)) ((bytesM (ws.take (k+1))).map (Value.int .u8))∧Ck w4 w.heap.size (w1.heap.size+1) 7 ((ws.take (k+1)).all okW)∧Below w.heap.size w w4 from by
      refine⟨?_,?_,HB3.out.grown hg4 (by omega) (fun r h=>by cases h;omega)⟩
      ·rw[HT.out.1,List.map_append,show 4*(k+1)=4*k+4 from by omega];exact ho4
      ·rw[HT.out.2];exact HC3.out.grown hg4 (by omega) (by omega))
     clear ho3 ho4 hg4 HB3 HC3 hq;go_wp2;go_roundw
     case rel=>exact⟨k+1,by omega,by go_num,by rw[show 4*(k+1)=4*k+4 from by omega],by omega,HW.out.1,HW.out.2.1,HW.out.2.2⟩
     case measure=>simp[intOf];omega
    ·have hk8:k=128:=(by omega);subst hk8;have ht:ws.take 128=ws:=List.take_of_length_le (by rw[HN.out];omega);rw[ht] at hown hck;obtain⟨c1,c2,ev,c3,c4⟩:=hck;rcases c4 with⟨hal,rfl⟩|⟨hal,n,c4⟩
     ·have HGd:=hide (show goodW ws=true from by unfold goodW;simp[HN.out,hal]);have HM:=hide (bytesM_eq ws hal);have HO:=hide hown;clear hal hown ht hcell;go_wp2_with (go_at_call 50;refine(told_ok _ _).mono ?_;rintro e w5 ⟨rfl,rfl⟩);go_ret2;refine⟨_,by rw[codeW,HGd.out];rfl,?_,hb⟩;rw[encW,if_pos HGd.out,bytesW_len,HN.out, ←HM.out];exact own_mono HO.out (by omega)
     ·have HGd:=hide (show goodW ws=false from by unfold goodW;simp[hal]);obtain⟨t',x',rfl⟩:=c4.iface;have H4:=hide c4;clear hal hown ht hcell c4;go_wp2_with (go_at_call 50;refine(told_bad _ _ n _ 7 _ H4.out (HG.out.below hb)).mono ?_;rintro e w5 ⟨rfl,hb5⟩);go_ret2;exact⟨_,by rw[codeW,HGd.out];rfl,by rw[encW,HGd.out];exact World.ownsRow_nil _ _ _ _,hb.trans (hb5.mono hb.size)⟩
 ·obtain⟨a,cap,rfl,_,_⟩:=h;have hq:((ws.length:Int)==128)=false:=by simp;omega
  have HB:=hide (show goodW ws=false from by unfold goodW;simp[hlen]);clear hlen;go_enter Tryz.func111,Tryz.ntmps111;go_wp2_with fail;refine(need_any w.heap.size (w.heap.size+1) _ 7 true false _ hck.out (by omega) (by simp)).mono ?_;rintro e w1 ⟨rfl,hc1,ht1⟩;have hbw1:=ht1.under hb0 (Nat.le_refl _) (by simp);obtain⟨c1,c2,ev,c3,c4⟩:=hc1;rcases c4 with⟨c4,_⟩|⟨_,n,c4⟩
  ·cases c4
  ·obtain⟨t',x',rfl⟩:=c4.iface;have H4:=hide c4;clear c4 ht1;go_wp2_with (go_at_call 36;refine(codeOf_any n _ 7 _ _ H4.out (HG.out.below hbw1)).mono ?_;rintro e w2 ⟨rfl,hb2⟩);go_ret2;exact⟨_,by rw[codeW,HB.out];rfl,by rw[encW,HB.out];exact World.ownsRow_nil _ _ _ _,hbw1.trans (hb2.mono hbw1.size)⟩
theorem layW_any(ms:List Int)(w:World)(hl:ms.length=128)(hg:ErrT w):
 Calls Tryz.prog 94 #[.agg (ms.map (Value.int .i64)).toArray] w fun e w'=>∃v',e=.returned v'∧w'.ownsRow w.heap.size 5 1 v' (encW ms).length ((encW ms).map (Value.int .u8))∧Below w.heap.size w w':=by
 obtain⟨W1,hW1⟩:∃W1,W1=w.alloc (.cells (ms.map (Value.int .i64)).toArray 154):=⟨_,rfl⟩;have B1:=hide (show Below w.heap.size w W1 from by rw[hW1];exact(Below.refl _ _).alloc (Nat.le_refl _) _);have HR:=hide (show Rd .i64 W1 (.slice (some ⟨w.heap.size,0,none⟩) 128 128) ms from by rw[hW1];exact rd_arr (n:=128) (Blk.new w _ _) hl.symm (by omega));have HG:=hide (hg.below B1.out);obtain⟨M,hM⟩:∃M,M=(ms.map (Value.int .i64)).toArray:=⟨_,rfl⟩;rw[←hM] at hW1⊢;have HW1:=hide hW1;clear hW1 hl hg hM;go_enter Tryz.func94,Tryz.ntmps94;go_upto_region 1 with fail;rw[←HW1.out];go_wp2_with (go_at_call 111;refine(implW_any _ ms _ HR.out HG.out).mono ?_;rintro e w1 ⟨v1,rfl,o1,b1⟩;have O1:=hide (And.intro o1 b1);clear o1 b1);go_ret;exact⟨_,rfl,own_mono O1.out.1 B1.out.size,B1.out.trans (O1.out.2.mono B1.out.size)⟩
theorem layB_any(m:Nat)(ms:List Int)(w:World)(h:Blk w m (ms.map (Value.int .u8)).toArray 150)(hl:ms.length=512):
 Calls Tryz.prog 89 #[.pointer (some ⟨m,0,none⟩)] w fun e w'=>∃v',e=.returned v'∧w'.ownsRow w.heap.size 5 1 v' ms.length (ms.map (Value.int .u8))∧Below w.heap.size w w':=by
 have HR:=hide (rd_arr (n:=512) h hl.symm (by omega));have HL:=hide hl;clear h hl;go_enter Tryz.func89,Tryz.ntmps89;go_wp2_with (go_at_call 90;refine(clone_any _ ms _ HR.out (by rw[HL.out];omega)).mono ?_;rintro e w1 ⟨v1,rfl,o1,b1⟩;have O1:=hide (And.intro o1 b1);clear o1 b1);go_ret;exact⟨_,rfl,O1.out.1,O1.out.2⟩
def RD.place(D:RD)(l r:Nat)(z:Bool)(ys:List Int):RD:=if z=true then D.setNow l r 0 else(D.fresh ys).setNow l r (supN D.st)
theorem fresh_Ln(D:RD)(ys:List Int):(D.fresh ys).Ln=D.Ln:=by unfold RD.fresh;split<;>rfl
theorem blk_two{w:World}{b:Nat}{t:TypeId}{x y:Value}(h:Blk w b #[x,y] t):w.rangeAt b 0 [x,y]:=by
 intro j v hj;match j,hj with
 |0,hj=>rw[h.cell (0+0)];simpa using hj
 |1,hj=>rw[h.cell (0+1)];simpa using hj
 |k+2,hj=>simp at hj
def wrdsP(img:List Int)(q:Int):List Int:=(List.range 128).map (wrdP img q)
theorem wrdsP_len(img:List Int)(q:Int):(wrdsP img q).length=128:=by unfold wrdsP;simp
theorem blkP_len(img:List Int)(q:Nat)(h:q*512+512≤img.length):(blkP img (q:Int)).length=512:=by unfold blkP;rw[List.length_take,List.length_drop,Int.toNat_natCast];omega
def RD.placeO(D:RD)(l r:Nat)(z e:Bool)(ys:List Int):RD:=if z=true then D.setNow l r 0 else if e=true then D.setNow l r ((D.Lo l).getD r 0) else(D.fresh ys).setNow l r (supN D.st)
theorem placeO_fresh(D:RD)(l r:Nat)(e:Bool)(ys:List Int)(he:e=false):(D.fresh ys).setNow l r (supN D.st)=D.placeO l r false e ys:=by subst he;rfl
theorem RSt.lowR{W0 w:World}{b:Nat}{D:RD}(h:RSt W0 w b D):Below W0.heap.size W0 w:=by obtain⟨_,_,_,_,_,_,hS⟩:=h;exact hS.low
theorem yieldsIf_eqlA{P:Program}{ops:Array Oper}{S:World→Prop}{o:Oper}{a:Act}(hw:Region.wanted o (yielded ops a.tmps)=true)(t u:TypeId)(x y:Operand)(ho:o.op=.binOp .eql t x y u)
 (cs ds:Array Value) (hx:a.eval x=.agg cs) (hy:a.eval y=.agg ds) (hm:P.eqGuardType P.depth t=false) (b:Bool) (hE:∀w,(Op.equalIn 10000 t (.agg cs) (.agg ds)).run P w=.ok b w):YieldsIf P ops S o (.bool b) a:=
 .inl ⟨hw,fun w hw'=>by simp[execOp,ho,hx,hy,run_eqGuard_agg w _ _ _ _ _ _ hm,run_eql_struct,hE w,Result.andThen]⟩
end
end Go.Proofs.YtbhpealglhkodaaGreatDoor
