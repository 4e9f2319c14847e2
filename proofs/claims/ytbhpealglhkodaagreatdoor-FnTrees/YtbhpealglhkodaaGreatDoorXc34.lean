/- The spots at a root that lies at the beginning of a block: topsOf. -/
import Derived.Test.YtbhpealglhkodaaGreatDoorXc12
namespace Go.Proofs.YtbhpealglhkodaaGreatDoor
set_option linter.all false
set_option maxRecDepth 100000
set_option maxHeartbeats 16000000
section
open Go.RowKit Go.Shelf
attribute [local go_sem] Oper.semAt_some
def topE0(X:Nat)(j:Nat):Array Value:=#[spotV (topL j) (topR j),.pointer (some ⟨X,1+j,none⟩)]
theorem tops0_in(n X:Nat)(w:World):
 CallsIn Fence.wide n Tryz.prog 68 #[.pointer (some ⟨X,0,none⟩)] w fun e w'=>e=.returned (.func (.func 99) #[] #[.pointer (some ⟨w.heap.size,0,none⟩)])∧w'=w.alloc (.cells #[.pointer (some ⟨X,0,none⟩)] 121):=by
 refine callsIn_of_wp Tryz.func68 rfl trivial ?_ rfl;simp only[Tryz.ntmps68,List.size_toArray,List.length_cons,List.length_nil,Nat.reduceAdd,Nat.reduceSub,Array.replicate_succ,Array.replicate_zero,List.push_toArray,List.append_toArray,List.nil_append,List.cons_append];gi_wp2
 go_ret;exact⟨rfl,rfl⟩
theorem tops0_goes(n Bx X n₀ z:Nat)(Ty:TypeId→Prop)(hTy:¬Ty 121)(W:World)(hBx:Blk W Bx #[.pointer (some ⟨X,0,none⟩)] 121):
 GoesK Fence.wide n Tryz.prog 99 #[.pointer (some ⟨Bx,0,none⟩)] (topE0 X) (Kq n₀ z Ty) (fun pre x _=>x=pre.length∧x<14) (fun xs=>xs=List.range 14) (fun _=>True) W:=by
 intro l J Jx hJ hJx hY h0;have hdd:∀k:Nat,(Fence.wide.depth.isSome=true→1≤k):=fun k h=>by cases h
 have HY:=hide (show ∀(j:Nat) (W1:World),j<14→J (List.range j) W1→Blk W1 Bx #[.pointer (some ⟨X,0,none⟩)] 121→YieldAt Fence.wide (n-1) Tryz.prog l (topE0 X j) W1 fun e W'=>(e=.returned (.bool true)∧J (List.range (j+1)) W'∧Blk W' Bx #[.pointer (some ⟨X,0,none⟩)] 121)∨(e=.returned (.bool false)∧∃pre,Jx pre W') from fun j W1 hj h1 h2=>by
  have:=hY (List.range j) j W1 h1 ⟨by simp,hj⟩;exact YieldAt.mono this fun e W' h=>h.elim (fun⟨he,hj2,hk⟩=>.inl ⟨he,by rw[←range_snoc];exact hj2,hk.blk h2 hTy⟩) (fun⟨he,hx,_⟩=>.inr ⟨he,_,hx⟩))
 have H0:=hide (And.intro h0 hBx);clear hY h0 hBx hJ hJx;refine callsIn_of_wp Tryz.func99 rfl trivial ?_ rfl;simp only[Tryz.ntmps99,List.size_toArray,List.length_cons,List.length_nil,Nat.reduceAdd,Nat.reduceSub,Array.replicate_succ,Array.replicate_zero,List.push_toArray,List.append_toArray,List.nil_append,List.cons_append];gi_wp2
 gi_loopw [4] (fun iv wr=>∃i:Nat,i≤12∧iv=.int .i64 (i:Int)∧J (List.range i) wr∧Blk wr Bx #[.pointer (some ⟨X,0,none⟩)] 121) (fun iv _=>12-(intOf iv).toNat)
 case atStart=>exact⟨0,by omega,rfl,H0.out.1,H0.out.2⟩
 case round=>
  obtain⟨i,hi,rfl,hj,hb⟩:=hrel;clear H0;have cb:=(hb.cell 0).trans (show _=some (.pointer (some ⟨X,0,none⟩)) from rfl);by_cases hi2:i<12
  ·obtain⟨fn,tmps,assign,body,hy,hR⟩:=HY.out i wr (by omega) hj hb;have hiI:(i:Int)<12:=(by omega);replace hy:(Instr.yield l #[.agg #[.int .i64 0,.int .i64 (i:Int)],.pointer (some ⟨X,1+i,none⟩)]).run Tryz.prog wr=.ok (.round l fn tmps assign body) wr:=by
    have e:topE0 X i=#[.agg #[.int .i64 0,.int .i64 (i:Int)],.pointer (some ⟨X,1+i,none⟩)]:=(by unfold topE0 topL topR spotV;rw[if_pos hi2,if_pos hi2];rfl);rw[e] at hy;exact hy
   have HR:=hide hR;clear hR hj hb;gi_wp2
   refine⟨hdd _,?_⟩;refine HR.out.mono ?_;rintro e W3 (⟨rfl,hj3,hb3⟩|⟨rfl,pre,hx3⟩)
   ·have H3:=hide (And.intro hj3 hb3);clear hj3 hb3 hy HR cb;gi_wp2
    go_roundw
    case rel=>exact⟨i+1,by omega,by go_num,H3.out.1,H3.out.2⟩
    case measure=>simp[intOf];omega
   ·have H3:=hide hx3;clear hx3 hy HR cb;gi_wp2
    refine bodyPost_ret (results_none rfl _ _ _) rfl ?_;exact⟨⟨_,rfl⟩,.inr ⟨pre,trivial,H3.out⟩⟩
  ·have hi3:i=12:=(by omega);subst hi3;clear hi2;obtain⟨fn,tmps,assign,body,hy,hR⟩:=HY.out 12 wr (by omega) hj hb;replace hy:(Instr.yield l #[.agg #[.int .i64 1,.int .i64 0],.pointer (some ⟨X,13,none⟩)]).run Tryz.prog wr=.ok (.round l fn tmps assign body) wr:=hy;have HR:=hide hR;clear hR hj hb;gi_wp2
   refine⟨hdd _,?_⟩;refine HR.out.mono ?_;rintro e W3 (⟨rfl,hj3,hb3⟩|⟨rfl,pre,hx3⟩)
   ·obtain⟨fn2,tmps2,assign2,body2,hy2,hR2⟩:=HY.out 13 W3 (by omega) hj3 hb3;replace hy2:(Instr.yield l #[.agg #[.int .i64 2,.int .i64 0],.pointer (some ⟨X,14,none⟩)]).run Tryz.prog W3=.ok (.round l fn2 tmps2 assign2 body2) W3:=hy2;have cb3:=(hb3.cell 0).trans (show _=some (.pointer (some ⟨X,0,none⟩)) from rfl);have HR2:=hide hR2;clear hR2 hj3 hb3 hy HR cb;gi_wp2
    refine⟨hdd _,?_⟩;refine HR2.out.mono ?_;rintro e W4 (⟨rfl,hj4,hb4⟩|⟨rfl,pre,hx4⟩)
    ·have H4:=hide hj4;clear hj4 hb4 hy2 HR2 cb3;gi_wp2
     go_end0;exact⟨⟨_,rfl⟩,.inl ⟨_,rfl,H4.out⟩⟩
    ·have H4:=hide hx4;clear hx4 hy2 HR2 cb3;gi_wp2
     go_end0;exact⟨⟨_,rfl⟩,.inr ⟨pre,trivial,H4.out⟩⟩
   ·have H3:=hide hx3;clear hx3 hy HR cb;gi_wp2
    go_end0;exact⟨⟨_,rfl⟩,.inr ⟨pre,trivial,H3.out⟩⟩
end
end Go.Proofs.YtbhpealglhkodaaGreatDoor
