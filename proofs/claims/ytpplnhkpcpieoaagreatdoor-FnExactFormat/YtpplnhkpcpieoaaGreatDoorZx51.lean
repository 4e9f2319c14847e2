/- What a struct that came in is opened with -/
import Derived.Test.YtpplnhkpcpieoaaGreatDoorZx38
import Derived.OpenVars
namespace Go.Proofs.YtpplnhkpcpieoaaGreatDoor
open Go.Proofs.Tryz
set_option linter.all false
set_option maxRecDepth 100000
set_option maxHeartbeats 16000000
section
open Go.ChangeShapes Go.WideShapes Go.ChangeAt Go.RowKit
theorem take_one{l:List Value}{o:Nat}{c:Value}(h:(l.drop o).take 1=[c]):l[o]?=some c:=by
 have h2:((l.drop o).take 1)[0]?=some c:=by rw[h];rfl
 simpa using h2
theorem Nf:prog.cellsOf 5=1:=by kernel_rfl
theorem Ct:prog.globalNamed "loop.example/s02533/impl.fsinfoLetters" =some 0:=by kernel_rfl
theorem Ng:(prog.globals[0]?).map (·.type)=some 124:=by kernel_rfl
theorem Nh:prog.underlying 124=some (.array 8 5):=by kernel_rfl
theorem Ni {W:World} (h:laidMet prog [("loop.example/s02533/impl.fsinfoLetters",Rows.laid_loop_example_s02533_impl_fsinfoLetters)] W):lE W:=by
 obtain⟨ps,⟨g,t,cs,fuel,p,q,h1,h2,h3,h4,_,_⟩,_⟩:=h;obtain rfl:=Option.some.inj (Ct.symm.trans h1);obtain rfl:=Option.some.inj (Ng.symm.trans h2);obtain⟨xs,m,_,hx,hlen,hxl,hel⟩:=DataW.trod_array Nh h4;have hx1:Rows.laid_loop_example_s02533_impl_fsinfoLetters=DataW.agg (xs.map (·.1)):=congrArg Prod.fst hx;unfold Rows.laid_loop_example_s02533_impl_fsinfoLetters at hx1;injection hx1 with hx2;intro j v hv;rw[Nat.zero_add,World.var?_cell Ct h3 j];have hj:j<8:=by
  rcases Nat.lt_or_ge j 8 with h|h
  ·exact h
  ·rw[List.getElem?_eq_none (by simp[iV];omega)] at hv;cases hv
 have he:=hel j hj;rw[Nf,Nat.mul_one,List.getElem?_eq_getElem (by omega)] at he;obtain⟨a,ea,hxa,_⟩:=DataW.trod_int underlying5 he;have hc:=take_one ea;have hd:(xs.map (·.1))[j]?=some (.lit (.int .u8 a)):=by
  rw[List.getElem?_map,List.getElem?_eq_getElem (by omega),hxa];rfl
 rw[←hx2] at hd;rw[show cs[j]?=cs.toList[j]? by simp,hc, ←hv];match j,hj with
 |0,_|1,_|2,_|3,_|4,_|5,_|6,_|7,_=>
  simp at hd;subst hd;rfl
noncomputable def laidWorldF (os:Os):World:=
 let w0:=laidWorld os
 {w0 with heap:=w0.heap.modify 0 fun
  |.cells _ t frozen=>.cells #[.int .u8 114,.int .u8 111,.int .u8 111,.int .u8 116,.int .u8 114,.int .u8 101,.int .u8 99,.int .u8 49] t frozen
  |o=>o}
end
end Go.Proofs.YtpplnhkpcpieoaaGreatDoor
