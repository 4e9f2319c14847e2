/- Arrays compared -/
import Derived.Test.YtpplnhkpcpieoaaGreatDoorZx12
namespace Go.Proofs.YtpplnhkpcpieoaaGreatDoor
open Go.Proofs.Tryz
open _root_.List (getD range replicate)
set_option linter.all false
set_option maxRecDepth 100000
set_option maxHeartbeats 16000000
section
open Go.RowKit
theorem pR(k:IntKind)(xs:List Int)(i:Nat)(h:i<xs.length):((xs.map (Value.int k)).toArray)[i]?=some (.int k (xs.getD i 0)):=by
 simp[getD,h]
theorem yP(n:Nat)(xs ys:List Int)(hx:xs.length=n)(hy:ys.length=n):((range n).all fun i=>xs.getD i 0==ys.getD i 0)=decide (xs=ys):=by
 rw[Bool.eq_iff_iff];simp only[List.all_eq_true,List.mem_range,beq_iff_eq,decide_eq_true_eq];constructor
 ·intro h;apply List.ext_getElem (by omega);intro i h1 h2;have:=h i (by omega);simpa [getD,h1,h2] using this
 ·rintro rfl i _;rfl
theorem yQ:prog.eqGuardType prog.depth 229=false:=by kernel_rfl
theorem Ga:prog.cellsOf 5=1:=by kernel_rfl
theorem yR(w:World)(d:Nat)(xs ys:List Int):∀(is:List Nat),(∀i∈is,i<xs.length∧i<ys.length)→
 (Op.eqItems (d+1) 5 1 (xs.map (Value.int .u8)).toArray (ys.map (Value.int .u8)).toArray is).run prog w=.ok (is.all fun i=>xs.getD i 0==ys.getD i 0) w
 |[],_=>by simp[Op.eqItems]
 |i::is,h=>by
  have hi:=h i (by simp);exact yM w (q9 w underlying5 (by rw[Nat.mul_one];exact pR .u8 xs i hi.1)) (q9 w underlying5 (by rw[Nat.mul_one];exact pR .u8 ys i hi.2)) (run_equalIn_int w d 5 .u8 .u8 _ _ underlying5) (yR w d xs ys is (fun j hj=>h j (by simp[hj])))
theorem Gb(w:World)(xs ys:List Int)(hx:xs.length=512)(hy:ys.length=512):(Op.equalIn 10000 229 (.agg (xs.map (Value.int .u8)).toArray) (.agg (ys.map (Value.int .u8)).toArray)).run prog w=.ok (decide (xs=ys)) w:=by
 obtain⟨i0,hi,hz0,hz1,hz2⟩:=info_parts eO;rw[run_equalIn_array w 9999 _ _ underlying229 hi,Ga,yR w 9998 xs ys (range 512) (by intro i hi;simp at hi;omega),yP 512 xs ys hx hy]
theorem ri:prog.eqGuardType prog.depth 192=false:=by kernel_rfl
theorem Gc:prog.cellsOf 3=1:=by kernel_rfl
theorem yS(w:World)(d:Nat)(xs ys:List Int):∀(is:List Nat),(∀i∈is,i<xs.length∧i<ys.length)→
 (Op.eqItems (d+1) 3 1 (xs.map (Value.int .i64)).toArray (ys.map (Value.int .i64)).toArray is).run prog w=.ok (is.all fun i=>xs.getD i 0==ys.getD i 0) w
 |[],_=>by simp[Op.eqItems]
 |i::is,h=>by
  have hi:=h i (by simp);exact yM w (q9 w underlying3 (by rw[Nat.mul_one];exact pR .i64 xs i hi.1)) (q9 w underlying3 (by rw[Nat.mul_one];exact pR .i64 ys i hi.2)) (run_equalIn_int w d 3 .i64 .i64 _ _ underlying3) (yS w d xs ys is (fun j hj=>h j (by simp[hj])))
theorem uw(w:World)(xs ys:List Int)(hx:xs.length=128)(hy:ys.length=128):(Op.equalIn 10000 192 (.agg (xs.map (Value.int .i64)).toArray) (.agg (ys.map (Value.int .i64)).toArray)).run prog w=.ok (decide (xs=ys)) w:=by
 obtain⟨i0,hi,hz0,hz1,hz2⟩:=info_parts fX;rw[run_equalIn_array w 9999 _ _ underlying192 hi,Gc,yS w 9998 xs ys (range 128) (by intro i hi;simp at hi;omega),yP 128 xs ys hx hy]
theorem rj{P:Program}{ops:Array Oper}{rest:List Oper}{o:Oper}{a:Act}{w:World}{Q:Exit→Act→World→Prop}(hw:Region.wanted o (yielded ops a.tmps)=true)(t u:TypeId)(x y:Operand)(ho:o.op=.binOp .eql t x y u)
 (cs ds:Array Value) (hx:a.eval x=.agg cs) (hy:a.eval y=.agg ds) (hm:P.eqGuardType P.depth t=false) (b:Bool) (hE:(Op.equalIn 10000 t (.agg cs) (.agg ds)).run P w=.ok b w)
 (h:wpList P ops Q rest (a.put o.dst (.bool b)) w):wpList P ops Q (o::rest) a w:=
 Go.BigFrame.wpList_want hw fun K hK=>by
  have hrun:(execOp a.eval o).run P w=.ok (.value (.bool b)) w:=by
   simp[execOp,ho,hx,hy,run_eqGuard_agg w _ _ _ _ _ _ hm,run_eql_struct,hE,Result.andThen]
  unfold Oper.wp;rw[hrun,Oper.upon_value];exact hK _ _ h
theorem ux(n:Nat)(k:IntKind):((replicate n (0:Int)).map (Value.int k)).toArray=Array.replicate n (.int k 0):=by simp
theorem yT:∃Z:Array Value,Z=((replicate 512 (0:Int)).map (Value.int .u8)).toArray∧∀(ρ:Operand→Value) (o:Oper) (w:World),o.op=.alloc 229→(execOp ρ o).run prog w=.ok (.value (.pointer (some ⟨w.heap.size,0,none⟩))) (w.alloc (.cells Z 229)):=
 ⟨_,rfl,fun ρ o w ho=>by rw[show((replicate 512 (0:Int)).map (Value.int .u8)).toArray=qL from ux 512 .u8];simp[execOp,ho,xP,Result.andThen]⟩
theorem rq:∃Z:Array Value,Z=((replicate 128 (0:Int)).map (Value.int .i64)).toArray∧∀(ρ:Operand→Value) (o:Oper) (w:World),o.op=.alloc 192→(execOp ρ o).run prog w=.ok (.value (.pointer (some ⟨w.heap.size,0,none⟩))) (w.alloc (.cells Z 192)):=
 ⟨_,rfl,fun ρ o w ho=>by rw[show((replicate 128 (0:Int)).map (Value.int .i64)).toArray=qM from ux 128 .i64];simp[execOp,ho,xQ,Result.andThen]⟩
theorem yU{w:World}{m n:Nat}{k:IntKind}{t:TypeId}{ms:List Int}(h:af w m (ms.map (Value.int k)).toArray t)(hn:n=ms.length)(hl:ms.length≤1048576):Rd k w (.slice (some ⟨m,0,none⟩) n n) ms:=by
 subst hn;refine⟨some ⟨m,0,none⟩,ms.length,rfl,by unfold maxLen;omega,fun _=>⟨m,0,rfl,h.lt,fun i hi=>?_⟩,aj,by unfold maxLen;omega⟩;rw[Nat.zero_add,h.cell i];exact pR k ms i hi
theorem Gd(b off l r:Nat)(sv:Value)(L:List Int)(w:World)(hl:l<3)(hr:r≤100000)(hb:b<w.heap.size)(hc:w.cell? ⟨b,off+l,none⟩=some sv)(hR:Rd .i64 w sv L):
 Calls prog 94 #[.pointer (some ⟨b,off,none⟩),bh l r] w fun e w'=>e=.returned (.int .i64 (L.getD r 0))∧Below w.heap.size w w':=by
 obtain⟨sa,sc,rfl⟩:=eY hR;obtain⟨_,hc1,hc2⟩:=uo hR;have hcm:sc≤9223372036854775807:=by unfold maxLen at hc2;omega
 have HB0:=ae (Below w.heap.size w (w.alloc (.cells #[.int .i64 (l:Int),.int .i64 (r:Int)] 175))) (ak.alloc aj _);have K0:=aa (af.new w #[.int .i64 (l:Int),.int .i64 (r:Int)] 175);have HS:=ae (((w.alloc (.cells #[.int .i64 (l:Int),.int .i64 (r:Int)] 175)).cell? ⟨w.heap.size,0,none⟩=some (.int .i64 (l:Int))∧(w.alloc (.cells #[.int .i64 (l:Int),.int .i64 (r:Int)] 175)).cell? ⟨w.heap.size,1,none⟩=some (.int .i64 (r:Int))∧(w.alloc (.cells #[.int .i64 (l:Int),.int .i64 (r:Int)] 175)).cell? ⟨b,off+l,none⟩=some (.slice sa L.length sc))) (⟨(K0.out.cell 0).trans rfl,(K0.out.cell 1).trans rfl,(HB0.out.cell (p:=⟨b,off+l,none⟩) hb).trans hc⟩);have Rc:=aa (hR.below HB0.out);have hl3:(l:Int)<3:=by omega
 obtain⟨x,hx⟩:∃x,x=L.getD r 0:=⟨_,rfl⟩;rw[←hx];have HX:=aa hx;clear hc hR hb hc1 hc2 hx;go_enter func94,ntmps94;go_upto_region 1 with fail;generalize hW0:w.alloc (.cells #[.int .i64 (l:Int),.int .i64 (r:Int)] 175)=W0 at HB0 HS Rc;clear hW0 K0;refine bg (fun w'=>w'.cell? ⟨w.heap.size,0,none⟩=some (.int .i64 (l:Int))∧w'.cell? ⟨w.heap.size,1,none⟩=some (.int .i64 (r:Int))∧w'.cell? ⟨b,off+l,none⟩=some (.slice sa L.length sc)) HS.out fun hH=>?_;refine ah 0 (.pointer (some ⟨w.heap.size,1,none⟩)) rfl hH ?_ (aH fun w' hw'=>by obtain⟨d0,d1,d2⟩:=hw';go_simp);refine ah 1 (.int .i64 (r:Int)) rfl hH ?_ (aH fun w' hw'=>by obtain⟨d0,d1,d2⟩:=hw';go_simp);refine ah 2 (.pointer (some ⟨b,off,none⟩)) rfl hH ?_ (aH fun w' hw'=>by obtain⟨d0,d1,d2⟩:=hw';go_simp);refine ah 3 (.pointer (some ⟨w.heap.size,0,none⟩)) rfl hH ?_ (aH fun w' hw'=>by obtain⟨d0,d1,d2⟩:=hw';go_simp);refine ah 4 (.int .i64 (l:Int)) rfl hH ?_ (aH fun w' hw'=>by obtain⟨d0,d1,d2⟩:=hw';go_simp);refine ah 5 (.pointer (some ⟨b,off,none⟩)) rfl hH ?_ (aH fun w' hw'=>by obtain⟨d0,d1,d2⟩:=hw';go_simp);refine ah 6 (.pointer (some ⟨b,off+l,none⟩)) rfl hH ?_ (aH fun w' hw'=>by obtain⟨d0,d1,d2⟩:=hw';go_simp);refine ah 7 (.slice sa L.length sc) rfl hH ?_ (aH fun w' hw'=>by obtain⟨d0,d1,d2⟩:=hw';go_simp);refine ah 8 (.int .i64 (L.length:Int)) rfl hH ?_ (aH fun w' hw'=>by obtain⟨d0,d1,d2⟩:=hw';go_simp);refine ah 9 (.bool (decide ((L.length:Int)≤(r:Int)))) rfl hH ?_ (aH fun w' hw'=>by obtain⟨d0,d1,d2⟩:=hw';go_simp);refine aV ?_;clear hH;by_cases hlr:(L.length:Int)≤(r:Int)
 ·have HG:=ae (x=0) (by rw[HX.out,getD,List.getElem?_eq_none (by omega)];rfl);go_wp2;go_ret;exact⟨by rw[HG.out];rfl,HB0.out.drew⟩
 ·obtain⟨eb,eo,ec,e,_,_,_,hcell⟩:=Rc.out.dJ (by omega);injection e with e1 e2 e3;subst e1;have hcx:=hcell r (by omega);rw[←HX.out] at hcx;have hrI:(r:Int)<(L.length:Int):=by omega
  have HS2:=aa (ai HS.out.1 (ai HS.out.2.1 (ai HS.out.2.2 hcx)));clear hcell hcx e2 e3;go_upto_region 3 with fail;refine bg (fun w'=>w'.cell? ⟨w.heap.size,0,none⟩=some (.int .i64 (l:Int))∧w'.cell? ⟨w.heap.size,1,none⟩=some (.int .i64 (r:Int))∧w'.cell? ⟨b,off+l,none⟩=some (.slice (some ⟨eb,eo,none⟩) L.length sc)∧w'.cell? ⟨eb,eo+r,none⟩=some (.int .i64 x)) HS2.out fun hH=>?_;refine ah 0 (.pointer (some ⟨b,off,none⟩)) rfl hH ?_ (aH fun w' hw'=>by obtain⟨d0,d1,d2,d3⟩:=hw';go_simp);refine ah 1 (.pointer (some ⟨w.heap.size,0,none⟩)) rfl hH ?_ (aH fun w' hw'=>by obtain⟨d0,d1,d2,d3⟩:=hw';go_simp);refine ah 2 (.int .i64 (l:Int)) rfl hH ?_ (aH fun w' hw'=>by obtain⟨d0,d1,d2,d3⟩:=hw';go_simp);refine ah 3 (.pointer (some ⟨b,off,none⟩)) rfl hH ?_ (aH fun w' hw'=>by obtain⟨d0,d1,d2,d3⟩:=hw';go_simp);refine ah 4 (.pointer (some ⟨b,off+l,none⟩)) rfl hH ?_ (aH fun w' hw'=>by obtain⟨d0,d1,d2,d3⟩:=hw';go_simp);refine ah 5 (.slice (some ⟨eb,eo,none⟩) L.length sc) rfl hH ?_ (aH fun w' hw'=>by obtain⟨d0,d1,d2,d3⟩:=hw';go_simp);refine ah 6 (.pointer (some ⟨w.heap.size,1,none⟩)) rfl hH ?_ (aH fun w' hw'=>by obtain⟨d0,d1,d2,d3⟩:=hw';go_simp);refine ah 7 (.int .i64 (r:Int)) rfl hH ?_ (aH fun w' hw'=>by obtain⟨d0,d1,d2,d3⟩:=hw';go_simp);refine ah 8 (.pointer (some ⟨eb,eo+r,none⟩)) rfl hH ?_ (aH fun w' hw'=>by obtain⟨d0,d1,d2,d3⟩:=hw';go_simp);refine ah 9 (.int .i64 x) rfl hH ?_ (aH fun w' hw'=>by obtain⟨d0,d1,d2,d3⟩:=hw';go_simp);refine ah 10 (.int .i64 x) rfl hH ?_ (aH fun w' hw'=>by obtain⟨d0,d1,d2,d3⟩:=hw';go_simp);refine aV ?_;clear hH;go_wp2;go_ret;exact⟨rfl,HB0.out.drew.drew⟩
structure fZ(w w':World)(b:Nat)(sv:Value):Prop where
 os:w'.os=w.os
 tape:w'.tape=w.tape
 output:w'.output=w.output
 size:w.heap.size≤w'.heap.size
 block:∀k,k<w.heap.size→k≠b→sv.ownBlock≠some k→w'.heap[k]?=w.heap[k]?
theorem fZ.cV{w w':World}{b:Nat}{sv:Value}(h:Below w.heap.size w w'):fZ w w' b sv:=⟨h.os,h.tape,h.output,h.size,fun k hk _ _=>h.block k hk⟩
theorem fZ.grown{w A B:World}{b:Nat}{sv:Value}{row:Option Nat}(h:fZ w A b sv)(hg:A.grownBy B row)(hr:∀k,row=some k→k<w.heap.size→k=b∨sv.ownBlock=some k):fZ w B b sv:=
 ⟨hg.os.trans h.os,hg.tape.trans h.tape,hg.output.trans h.output,aK h.size hg.size,fun k hk h1 h2=>(hg.block k (Nat.lt_of_lt_of_le hk h.size) (fun e=>(hr k e.symm hk).elim h1 h2)).trans (h.block k hk h1 h2)⟩
def dD(L:List Int)(r:Nat)(x:Int):List Int:=(L++replicate (r+1-L.length) 0).set r x
structure ru(w:World)(b i:Nat)(C:Array Value)(t:TypeId)(base:Nat)(sv:Value)(L:List Int)(l r j:Nat)(sw:Value)(W:World):Prop where
 le:j≤r+1-L.length
 box:af W b (C.setIfInBounds i sw) t
 row:W.ownsRow base 3 1 sw (L.length+j) ((L++replicate j 0).map (Value.int .i64))
 own:sw.ownBlock=sv.ownBlock∨∃g,sw.ownBlock=some g∧w.heap.size≤g
 spot:af W w.heap.size #[.int .i64 (l:Int),.int .i64 (r:Int)] 175
 old:fZ w W b sv
def nc(b i:Nat)(wr:World):Nat:=match wr.cell? ⟨b,i,none⟩ with|some (.slice _ n _)=>n|_=>0
theorem Ge{C:Array Value}{i:Nat}{v:Value}(h:C[i]?=some v):C.setIfInBounds i v=C:=by
 apply Array.ext_getElem?;intro k;rw[Array.getElem?_setIfInBounds];split
 ·rename_i e
  subst e;split
  ·exact h.symm
  ·rename_i hn
   rw[Array.getElem?_eq_none (by omega)]
 ·rfl
theorem ry{W:World}{b i:Nat}{C:Array Value}{t:TypeId}{v:Value}(h:af W b (C.setIfInBounds i v) t)(hi:i<C.size):W.cell? ⟨b,i,none⟩=some v:=by
 refine(h.cell i).trans ?_;simp[hi]
theorem Gf(b off l r i:Nat)(C:Array Value)(t:TypeId)(sv:Value)(L:List Int)(x:Int)(base:Nat)(w:World)(hl:l<3)(hr:r≤100000)(Xl:L.length≤100001)(hi:i=off+l)(hk:af w b C t)(hc:C[i]?=some sv)(ht:t≠3)
 (ho:w.ownsRow base 3 1 sv L.length (L.map (Value.int .i64))) (hbs:base≤w.heap.size):
 Calls prog 124 #[.pointer (some ⟨b,off,none⟩),bh l r,.int .i64 x] w fun e w'=>e=.returned (.tuple #[])∧∃sw,af w' b (C.setIfInBounds i sw) t∧w'.ownsRow base 3 1 sw (dD L r x).length ((dD L r x).map (Value.int .i64))∧(sw.ownBlock=sv.ownBlock∨∃g,sw.ownBlock=some g∧w.heap.size≤g)∧fZ w w' b sv:=by
 subst hi;obtain⟨i0,hi,hz0,hz1,hz2⟩:=info_parts fX;have HT:=aa (ai hi (ai hz0 (ai hz1 hz2)));clear hi hz0 hz1 hz2;have Xm:off+l<C.size:=(Array.getElem?_eq_some_iff.1 hc).1;have hbw:=hk.lt;have I0:=ae (ru w b (off+l) C t base sv L l r 0 sv (w.alloc (.cells #[.int .i64 (l:Int),.int .i64 (r:Int)] 175))) (⟨Nat.zero_le _,by rw[Ge hc];exact hk.alloc _,by simpa using ho.alloc _,.inl rfl,af.new w _ _,fZ.cV (ak.alloc aj _)⟩);have HT2:=aa ht;have hl3:(l:Int)<3:=by omega
 clear hk hc ho ht;go_enter func124,ntmps124;go_upto_region 1 with fail;go_loopw [6] (fun _ wr=>∃j sw,ru w b (off+l) C t base sv L l r j sw wr) (fun _ wr=>r+1-nc b (off+l) wr)
 case atStart=>exact⟨0,sv,I0.out⟩
 case round=>
  obtain⟨j,sw,hI⟩:=hrel;clear I0;obtain⟨n,hn⟩:∃n,n=L.length+j:=⟨_,rfl⟩;have hrow:=hI.row;rw[←hn] at hrow;obtain⟨sa,sc,rfl⟩:=cG hrow;have hle:=hI.le;have HS:=ae (wr.cell? ⟨w.heap.size,0,none⟩=some (.int .i64 (l:Int))∧wr.cell? ⟨w.heap.size,1,none⟩=some (.int .i64 (r:Int))∧wr.cell? ⟨b,off+l,none⟩=some (.slice sa n sc)) (⟨(hI.spot.cell 0).trans rfl,(hI.spot.cell 1).trans rfl,ry hI.box Xm⟩);have HI:=aa (ai hI (ai hrow hn));have hn2:n≤100001:=by omega
  have hm0:r+1-nc b (off+l) wr=r+1-n:=by unfold nc;rw[HS.out.2.2]
  have Um:=aa hm0;clear hI hrow hn hm0;go_upto_region 1 with fail;refine bg (fun w'=>w'.cell? ⟨w.heap.size,0,none⟩=some (.int .i64 (l:Int))∧w'.cell? ⟨w.heap.size,1,none⟩=some (.int .i64 (r:Int))∧w'.cell? ⟨b,off+l,none⟩=some (.slice sa n sc)) HS.out fun hH=>?_;refine ah 0 (.pointer (some ⟨b,off,none⟩)) rfl hH ?_ (aH fun w' hw'=>by obtain⟨d0,d1,d2⟩:=hw';go_simp);refine ah 1 (.pointer (some ⟨w.heap.size,0,none⟩)) rfl hH ?_ (aH fun w' hw'=>by obtain⟨d0,d1,d2⟩:=hw';go_simp);refine ah 2 (.int .i64 (l:Int)) rfl hH ?_ (aH fun w' hw'=>by obtain⟨d0,d1,d2⟩:=hw';go_simp);refine ah 3 (.pointer (some ⟨b,off,none⟩)) rfl hH ?_ (aH fun w' hw'=>by obtain⟨d0,d1,d2⟩:=hw';go_simp);refine ah 4 (.pointer (some ⟨b,off+l,none⟩)) rfl hH ?_ (aH fun w' hw'=>by obtain⟨d0,d1,d2⟩:=hw';go_simp);refine ah 5 (.slice sa n sc) rfl hH ?_ (aH fun w' hw'=>by obtain⟨d0,d1,d2⟩:=hw';go_simp);refine ah 6 (.int .i64 (n:Int)) rfl hH ?_ (aH fun w' hw'=>by obtain⟨d0,d1,d2⟩:=hw';go_simp);refine ah 7 (.pointer (some ⟨w.heap.size,1,none⟩)) rfl hH ?_ (aH fun w' hw'=>by obtain⟨d0,d1,d2⟩:=hw';go_simp);refine ah 8 (.int .i64 (r:Int)) rfl hH ?_ (aH fun w' hw'=>by obtain⟨d0,d1,d2⟩:=hw';go_simp);refine ah 9 (.bool (decide ((n:Int)≤(r:Int)))) rfl hH ?_ (aH fun w' hw'=>by obtain⟨d0,d1,d2⟩:=hw';go_simp);refine aV ?_;clear hH;by_cases hnr:(n:Int)≤(r:Int)
  ·go_upto_region 2 with fail;refine wp_region_noPanic ?_;refine nR (fun w'=>w'.cell? ⟨w.heap.size,0,none⟩=some (.int .i64 (l:Int))∧w'.cell? ⟨w.heap.size,1,none⟩=some (.int .i64 (r:Int))∧w'.cell? ⟨b,off+l,none⟩=some (.slice sa n sc)) 12 (by kernel_rfl) ?_;have hH:=HS.out;refine cQ 0 (.pointer (some ⟨b,off,none⟩)) rfl hH ?_ (aH fun w' hw'=>by obtain⟨d0,d1,d2⟩:=hw';go_simp);refine cQ 1 (.pointer (some ⟨w.heap.size,0,none⟩)) rfl hH ?_ (aH fun w' hw'=>by obtain⟨d0,d1,d2⟩:=hw';go_simp);refine cQ 2 (.int .i64 (l:Int)) rfl hH ?_ (aH fun w' hw'=>by obtain⟨d0,d1,d2⟩:=hw';go_simp);refine cQ 3 (.pointer (some ⟨b,off,none⟩)) rfl hH ?_ (aH fun w' hw'=>by obtain⟨d0,d1,d2⟩:=hw';go_simp);refine cQ 4 (.pointer (some ⟨w.heap.size,0,none⟩)) rfl hH ?_ (aH fun w' hw'=>by obtain⟨d0,d1,d2⟩:=hw';go_simp);refine cQ 5 (.int .i64 (l:Int)) rfl hH ?_ (aH fun w' hw'=>by obtain⟨d0,d1,d2⟩:=hw';go_simp);refine cQ 6 (.pointer (some ⟨b,off,none⟩)) rfl hH ?_ (aH fun w' hw'=>by obtain⟨d0,d1,d2⟩:=hw';go_simp);refine cQ 7 (.pointer (some ⟨b,off+l,none⟩)) rfl hH ?_ (aH fun w' hw'=>by obtain⟨d0,d1,d2⟩:=hw';go_simp);refine cQ 8 (.slice sa n sc) rfl hH ?_ (aH fun w' hw'=>by obtain⟨d0,d1,d2⟩:=hw';go_simp);refine cQ 11 (.pointer (some ⟨b,off,none⟩)) rfl hH ?_ (aH fun w' hw'=>by obtain⟨d0,d1,d2⟩:=hw';go_simp);refine dY (i:=9) (by kernel_rfl) rfl (fun K hK=>?_);go_simp;have bA:Below wr.heap.size wr (wr.alloc (.cells #[.int .i64 0] 3)):=ak.alloc aj _;have HA:=ae (ru w b (off+l) C t base sv L l r j (.slice sa n sc) (wr.alloc (.cells #[.int .i64 0] 3))) (⟨HI.out.1.le,HI.out.1.box.alloc _,HI.out.1.row.alloc _,HI.out.1.own,HI.out.1.spot.alloc _,HI.out.1.old.grown (row:=none) ⟨bA.os,bA.tape,bA.output,bA.size,fun k hk _=>bA.block k hk⟩ (fun k e=>by cases e)⟩);have Un:=ae ((wr.alloc (.cells #[.int .i64 0] 3)).ownsRow base 3 1 (.slice sa n sc) n ((L++replicate j 0).map (Value.int .i64))) (HI.out.2.1.alloc _);have OX:(wr.alloc (.cells #[.int .i64 0] 3)).cell? ⟨w.heap.size,0,none⟩=some (.int .i64 (l:Int))∧(wr.alloc (.cells #[.int .i64 0] 3)).cell? ⟨w.heap.size,1,none⟩=some (.int .i64 (r:Int))∧(wr.alloc (.cells #[.int .i64 0] 3)).cell? ⟨b,off+l,none⟩=some (.slice sa n sc):=⟨(HA.out.spot.cell 0).trans rfl,(HA.out.spot.cell 1).trans rfl,ry HA.out.box Xm⟩;refine hK.out _ _ (fun _ _=>OX) ?_;clear hK K hH OX;try simp only[Act.put,av,ay,az,aA,aB,aC]
   refine dY (i:=10) (by kernel_rfl) rfl (fun K hK=>?_);rw[if_pos (by rfl)];refine jD (.tmp 24) (.tmp 25) 45 rfl base 3 i0 (.int .i64 0) 1 8 underlying45 HT.out.1 HT.out.2.1 HT.out.2.2.1 HT.out.2.2.2 rfl (by decide) (.slice sa n sc) n _ rfl Un.out ⟨wr.heap.size,0,none⟩ 1 1 [.int .i64 0] rfl rfl (FR wr _ _) (by simp[Value.oneCell']) (by unfold maxLen;omega) (by omega) (by have h1:=HI.out.1.old.size;have h2:=bA.size;exact aK hbs (aK h1 h2)) ?_;intro v8 w8 o8 Uo a8;have g8:(wr.alloc (.cells #[.int .i64 0] 3)).grownBy w8 (Value.slice sa n sc).ownBlock:=⟨Uo.os,Uo.tape,Uo.output,Uo.size,Uo.block⟩;clear Uo;obtain⟨OC,OE,rfl⟩:=cG o8;have H8:=aa (ai o8 (ai g8 a8));have K8:=ae (af w8 b (C.setIfInBounds (off+l) (.slice sa n sc)) t∧af w8 w.heap.size #[.int .i64 (l:Int),.int .i64 (r:Int)] 175) (⟨nW Un.out HA.out.box HT2.out g8,nW Un.out HA.out.spot (by decide) g8⟩);clear o8 g8 a8;have hH:w8.cell? ⟨w.heap.size,0,none⟩=some (.int .i64 (l:Int))∧w8.cell? ⟨w.heap.size,1,none⟩=some (.int .i64 (r:Int))∧w8.cell? ⟨b,off+l,none⟩=some (.slice sa n sc):=⟨(K8.out.2.cell 0).trans rfl,(K8.out.2.cell 1).trans rfl,ry K8.out.1 Xm⟩;refine hK.out _ _ (fun _ _=>hH) ?_;clear hK K;try simp only[Act.put,av,ay,az,aA,aB,aC]
   have c8:=hH.2.2;have f8:=K8.out.1.frozen (off+l);clear hH;refine dY (i:=12) (by kernel_rfl) rfl (fun K hK=>?_);go_simp;refine hK.out _ _ (fun h=>absurd rfl h) ?_;clear hK K;try simp only[Act.put,av,ay,az,aA,aB,aC]
   refine dY (i:=13) (by kernel_rfl) rfl (fun K hK=>?_);go_simp;refine hK.out _ _ (fun _ h=>Bool.noConfusion (show true=false from h)) ?_;clear hK K c8 f8;refine m5 (by kernel_rfl) (NoPanic.normal ?_) _;obtain⟨WF,P0⟩:∃WF,WF=w8.setCell ⟨b,off+l,none⟩ (.slice OC (n+1) OE):=⟨_,rfl⟩;rw[←P0];have HF:=ae (ru w b (off+l) C t base sv L l r (j+1) (.slice OC (n+1) OE) WF) (by
    have hne:b≠w.heap.size:=(by omega);refine⟨by have:=HI.out.2.2;omega,?_,?_,?_,?_,?_⟩
    ·rw[P0];have h:=K8.out.1.set (off+l) (.slice OC (n+1) OE);rw[Array.setIfInBounds_setIfInBounds] at h;exact h
    ·rw[P0,List.replicate_succ', ←List.append_assoc,List.map_append,show L.length+(j+1)=n+1 by have:=HI.out.2.2;omega];exact ep H8.out.1 K8.out.1 HT2.out
    ·rcases H8.out.2.2 with e|e
     ·rw[e];exact HI.out.1.own
     ·exact .inr ⟨_,e,by have h1:=HI.out.1.old.size;have h2:=bA.size;exact aK h1 h2⟩
    ·rw[P0];exact K8.out.2.other _ _ (fun e=>hne e.symm)
    ·rw[P0];refine(HA.out.old.grown H8.out.2.1 (fun k e hk=>?_)).grown (row:=some b) ?_ (fun k e _=>.inl (by cases e;rfl))
     ·rcases HI.out.1.own with h|⟨g,h,hg⟩
      ·exact .inr (h.symm.trans e)
      ·rw[h] at e;cases e;omega
     ·exact⟨rfl,rfl,rfl,by simp,fun k _ hk=>heap_setCell_other w8 ⟨b,off+l,none⟩ k _ (fun e=>hk (by rw[e]))⟩)
   have HL:=ae (nc b (off+l) WF=n+1) (by unfold nc;rw[ry HF.out.box Xm]);clear P0;go_roundw
   case rel=>exact⟨_,_,_,_,_,_,_,_,_,_,_,_,_,_,_,_,_,_,_,_,_,_,_,⟨_,_,HF.out⟩,rfl⟩
   case measure=>rw[Um.out,HL.out];omega
  ·have hj:j=r+1-L.length:=(by have:=HI.out.2.2;omega);obtain⟨g,cp,e,_,hcd⟩:=kU HI.out.2.1 (by omega);injection e with e1 e2 e3;subst e1;clear hcd e2 e3;have hrI:(r:Int)<(n:Int):=(by omega);have hcm:sc≤9223372036854775807:=(by have:=(uo (Rd.own (k:=.i64) HI.out.2.1)).2.2;unfold maxLen at this;omega);have HJ:=aa hj;clear hj;go_upto_region 3 with fail;refine wp_region_noPanic ?_;refine nR (fun w'=>w'.cell? ⟨w.heap.size,0,none⟩=some (.int .i64 (l:Int))∧w'.cell? ⟨w.heap.size,1,none⟩=some (.int .i64 (r:Int))∧w'.cell? ⟨b,off+l,none⟩=some (.slice (some ⟨g,0,none⟩) n sc)) 9 (by kernel_rfl) ?_;have hH:=HS.out;refine cQ 0 (.pointer (some ⟨b,off,none⟩)) rfl hH ?_ (aH fun w' hw'=>by obtain⟨d0,d1,d2⟩:=hw';go_simp);refine cQ 1 (.pointer (some ⟨w.heap.size,0,none⟩)) rfl hH ?_ (aH fun w' hw'=>by obtain⟨d0,d1,d2⟩:=hw';go_simp);refine cQ 2 (.int .i64 (l:Int)) rfl hH ?_ (aH fun w' hw'=>by obtain⟨d0,d1,d2⟩:=hw';go_simp);refine cQ 3 (.pointer (some ⟨b,off,none⟩)) rfl hH ?_ (aH fun w' hw'=>by obtain⟨d0,d1,d2⟩:=hw';go_simp);refine cQ 4 (.pointer (some ⟨b,off+l,none⟩)) rfl hH ?_ (aH fun w' hw'=>by obtain⟨d0,d1,d2⟩:=hw';go_simp);refine cQ 5 (.slice (some ⟨g,0,none⟩) n sc) rfl hH ?_ (aH fun w' hw'=>by obtain⟨d0,d1,d2⟩:=hw';go_simp);refine cQ 6 (.pointer (some ⟨w.heap.size,1,none⟩)) rfl hH ?_ (aH fun w' hw'=>by obtain⟨d0,d1,d2⟩:=hw';go_simp);refine cQ 7 (.int .i64 (r:Int)) rfl hH ?_ (aH fun w' hw'=>by obtain⟨d0,d1,d2⟩:=hw';go_simp);refine cQ 8 (.int .i64 x) rfl hH ?_ (aH fun w' hw'=>by obtain⟨d0,d1,d2⟩:=hw';go_simp);clear hH;refine dY (i:=9) (by kernel_rfl) rfl (fun K hK=>?_);go_simp;refine hK.out _ _ (fun h=>absurd rfl h) ?_;clear hK K;try simp only[Act.put,av,ay,az,aA,aB,aC]
   have c9:∃u,wr.cell? ⟨g,r,none⟩=some u:=by
    have h:=HI.out.2.1.cellAt r (by omega);have hl1:=HI.out.2.1.1;rw[List.getElem?_eq_getElem (by omega)] at h;exact⟨_,h⟩
   obtain⟨u9,c9⟩:=c9;have f9:=HI.out.2.1.frozenAt r;refine dY (i:=10) (by kernel_rfl) rfl (fun K hK=>?_);go_simp;refine hK.out _ _ (fun _ h=>Bool.noConfusion (show true=false from h)) ?_;clear hK K c9 f9;refine m5 (by kernel_rfl) (NoPanic.normal ?_) _;go_end0;have hst:=HI.out.2.1.stored r (.int .i64 x);have hgb:(Value.slice (some ⟨g,0,none⟩) n sc).ownBlock≠some b:=jB HI.out.2.1 HI.out.1.box HT2.out;have Yw:b≠g:=fun e=>hgb (by rw[e];rfl);have hnl:(dD L r x).length=n:=(by unfold dD;rw[List.length_set,List.length_append,List.length_replicate];have:=HI.out.2.2;have:=HJ.out;omega);have he:((L++replicate j 0).map (Value.int .i64)).set r (.int .i64 x)=(dD L r x).map (Value.int .i64):=(by unfold dD;rw[List.map_set,HJ.out]);refine⟨rfl,.slice (some ⟨g,0,none⟩) n sc,HI.out.1.box.other ⟨g,r,none⟩ _ Yw,?_,HI.out.1.own,?_⟩
   ·rw[hnl, ←he];exact hst.1
   ·have hN:=HI.out.1.old.grown hst.2 (fun k e hk=>by
     rcases HI.out.1.own with h|⟨g',h,hg'⟩
     ·exact .inr (h.symm.trans e)
     ·have e2:some g'=some k:=h.symm.trans e;injection e2 with e3;omega)
    exact⟨hN.os,hN.tape,hN.output,hN.size,hN.block⟩
end
section
open Go.RowKit Go.Shelf
attribute [local go_sem] Oper.semAt_some
def aO{α:Type}(f:Nat→α)(l:Nat)(v:α):Nat→α:=fun k=>if k=l then v else f k
theorem bY{α:Type}(f:Nat→α)(l:Nat)(v:α):aO f l v l=v:=if_pos rfl
theorem aU{α:Type}(f:Nat→α)(l k:Nat)(v:α)(h:k≠l):aO f l v k=f k:=if_neg h
structure dP(W:World)(base b off:Nat)(C:Array Value)(t:TypeId)(sl:Nat→Value)(Ls:Nat→List Int):Prop where
 box:af W b C t
 at_:∀l,l<3→C[off+l]?=some (sl l)
 row:∀l,l<3→W.ownsRow base 3 1 (sl l) (Ls l).length ((Ls l).map (Value.int .i64))
 apart:∀l m,l<3→m<3→l≠m→(sl l).ownBlock=none∨(sl l).ownBlock≠(sl m).ownBlock
theorem dP.below{W W':World}{base b off:Nat}{C:Array Value}{t:TypeId}{sl:Nat→Value}{Ls:Nat→List Int}(h:dP W base b off C t sl Ls)(hb:Below W.heap.size W W'):dP W' base b off C t sl Ls:=
 ⟨h.box.below hb h.box.lt,h.at_,fun l hl=>bz (h.row l hl) hb,h.apart⟩
theorem dP.fH{A B:World}{row:Option Nat}{z base b off:Nat}{C:Array Value}{t:TypeId}{sl:Nat→Value}{Ls:Nat→List Int}(h:dP A base b off C t sl Ls)(hg:A.grownBy B row)(hr:∀r,row=some r→z≤r∧∃o,A.heap[r]?=some o∧o.isCells=false):dP B base b off C t sl Ls:=
 ⟨dZ h.box hg hr,h.at_,fun l hl=>yI (h.row l hl) hg hr,h.apart⟩
theorem fZ.own{w w':World}{b:Nat}{sv v:Value}{base n:Nat}{e:TypeId}{xs:List Value}(h:fZ w w' b sv)(ho:w.ownsRow base e 1 v n xs)(hb:v.ownBlock≠some b)(hv:v.ownBlock=none∨v.ownBlock≠sv.ownBlock):w'.ownsRow base e 1 v n xs:=by
 refine⟨ho.1,?_⟩;rcases ho.2 with h1|⟨g,cap,cur,rfl,hbs,hg,h2⟩
 ·exact .inl h1
 ·refine .inr ⟨g,cap,cur,rfl,hbs,?_,h2⟩;have hlt:g<w.heap.size:=(Array.getElem?_eq_some_iff.1 hg).1;refine(h.block g hlt (fun e=>hb (by rw[e];rfl)) (fun e=>?_)).trans hg;rcases hv with h3|h3
  ·cases h3
  ·exact h3 (by rw[e];rfl)
theorem fZ.blk{w w':World}{b k base n:Nat}{sv:Value}{C:Array Value}{t:TypeId}{xs:List Value}(h:fZ w w' b sv)(ho:w.ownsRow base 3 1 sv n xs)(hk:af w k C t)(hkb:k≠b)(ht:t≠3):af w' k C t:=
 (h.block k hk.lt hkb (jB ho hk ht)).trans hk
theorem kW(b off l r:Nat)(C:Array Value)(t:TypeId)(sl:Nat→Value)(Ls:Nat→List Int)(base:Nat)(w:World)(h:dP w base b off C t sl Ls)(hl:l<3)(hr:r≤100000):
 Calls prog 94 #[.pointer (some ⟨b,off,none⟩),bh l r] w fun e w'=>e=.returned (.int .i64 ((Ls l).getD r 0))∧Below w.heap.size w w':=
 Gd b off l r (sl l) (Ls l) w hl hr h.box.lt ((h.box.cell _).trans (h.at_ l hl)) (Rd.own (h.row l hl))
theorem uy(b off l r:Nat)(C:Array Value)(t:TypeId)(sl:Nat→Value)(Ls:Nat→List Int)(x:Int)(base:Nat)(w:World)(h:dP w base b off C t sl Ls)(hl:l<3)(hr:r≤100000)(Xl:(Ls l).length≤100001)(ht:t≠3)(hbs:base≤w.heap.size):
 Calls prog 124 #[.pointer (some ⟨b,off,none⟩),bh l r,.int .i64 x] w fun e w'=>e=.returned (.tuple #[])∧∃sw,dP w' base b off (C.setIfInBounds (off+l) sw) t (aO sl l sw) (aO Ls l (dD (Ls l) r x))∧fZ w w' b (sl l)∧(sw.ownBlock=(sl l).ownBlock∨∃g,sw.ownBlock=some g∧w.heap.size≤g):=by
 refine(Gf b off l r (off+l) C t (sl l) (Ls l) x base w hl hr Xl rfl h.box (h.at_ l hl) ht (h.row l hl) hbs).mono ?_;rintro e w' ⟨rfl,sw,h1,h2,h3,h4⟩;refine⟨rfl,sw,⟨h1,fun m hm=>?_,fun m hm=>?_,fun m k hm hk hne=>?_⟩,h4,h3⟩
 ·by_cases e:m=l
  ·subst e;rw[bY,Array.getElem?_setIfInBounds_self_of_lt (Array.getElem?_eq_some_iff.1 (h.at_ m hm)).1]
  ·rw[aU _ _ _ _ e,Array.getElem?_setIfInBounds_ne (by omega)];exact h.at_ m hm
 ·by_cases e:m=l
  ·subst e;rw[bY,bY];exact h2
  ·rw[aU _ _ _ _ e,aU _ _ _ _ e];exact h4.own (h.row m hm) (jB (h.row m hm) h.box ht) (h.apart m l hm hl e)
 ·have lt:∀j g,j<3→(sl j).ownBlock=some g→g<w.heap.size:=fun j g hj hg=>((h.row j hj).lt g hg).2;by_cases e1:m=l
  ·subst e1;have e2:k≠m:=fun e=>hne e.symm;rw[bY,aU _ _ _ _ e2];rcases h3 with h3|⟨g,h3,hg⟩
   ·rw[h3];exact h.apart m k hm hk hne
   ·refine .inr (fun e=>?_);rw[h3] at e;have:=lt k g hk e.symm;omega
  ·rw[aU _ _ _ _ e1];by_cases e2:k=l
   ·subst e2;rw[bY];rcases h3 with h3|⟨g,h3,hg⟩
    ·rw[h3];exact h.apart m k hm hk hne
    ·refine .inr (fun e=>?_);rw[h3] at e;have:=lt m g hm e;omega
   ·rw[aU _ _ _ _ e2];exact h.apart m k hm hk hne
theorem uz(b off l r:Nat)(C:Array Value)(t:TypeId)(sl:Nat→Value)(Ls:Nat→List Int)(x:Int)(base:Nat)(w:World)(h:dP w base b off C t sl Ls)(hl:l<3)(hr:r≤100000)(Xl:(Ls l).length≤100001)(ht:t≠3)(hbs:base≤w.heap.size):
 Calls prog 124 #[.pointer (some ⟨b,off,none⟩),bh l r,.int .i64 x] w fun e w'=>e=.returned (.tuple #[])∧∃sw,dP w' base b off (C.setIfInBounds (off+l) sw) t (aO sl l sw) (aO Ls l (dD (Ls l) r x))∧fZ w w' b (sl l):=by
 refine(uy b off l r C t sl Ls x base w h hl hr Xl ht hbs).mono ?_;rintro e w' ⟨h1,sw,h2,h3,_⟩;exact⟨h1,sw,h2,h3⟩
def dR(pre:List TX):Nat→List Int:=pre.foldl (fun f x=>aO f x.1.1 (dD (f x.1.1) x.1.2.1 x.1.2.2)) (fun _=>[])
theorem yV(pre:List TX)(x:TX):dR (pre++[x])=aO (dR pre) x.1.1 (dD (dR pre x.1.1) x.1.2.1 x.1.2.2):=by unfold dR;rw[List.foldl_append];rfl
theorem nY(L:List Int)(r:Nat)(x:Int):(dD L r x).length=max L.length (r+1):=by unfold dD;rw[List.length_set,List.length_append,List.length_replicate];omega
end
end Go.Proofs.YtpplnhkpcpieoaaGreatDoor
