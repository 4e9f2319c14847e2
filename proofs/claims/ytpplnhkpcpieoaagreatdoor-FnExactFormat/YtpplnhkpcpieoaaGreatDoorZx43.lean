/- The model's writing of a tree: holes -/
import Derived.Test.YtpplnhkpcpieoaaGreatDoorZx42
namespace Go.Proofs.YtpplnhkpcpieoaaGreatDoor
open Go.Proofs.Tryz
open _root_.List (replicate getD)
set_option linter.all false
set_option maxRecDepth 100000
set_option maxHeartbeats 16000000
section
open Go.RowKit
theorem LV(n:Nat):jd (replicate n 0)=[]:=by
 unfold jd;rw[List.filter_eq_nil_iff];intro z hz;rw[List.eq_of_mem_replicate hz];simp
theorem LW(v:Value)(n:Nat)(w:World)(h:Rd .i64 w v (replicate n 0))(hl:n≤100000):
 Calls prog 112 #[v] w fun e w'=>e=.returned (.bool true)∧Below w.heap.size w w':=by
 have HS:=aa (FW v (replicate n 0) w h (by rw[List.length_replicate];exact hl));rw[LV] at HS;clear h;go_enter func112,ntmps112;go_wp2_with (first|(go_at_call 142;refine HS.out.mono ?_;rintro e w1 ⟨v',rfl,o,b⟩;obtain⟨a,c,rfl⟩:=bO o;simp only[List.length_nil];have HB:=aa b;clear o b)|fail);go_ret;exact⟨rfl,HB.out⟩
theorem BJ(b:Nat)(v ov:Value)(old:Int)(n:Nat)(w:World)(h:Rd .i64 w v (replicate n 0))(hl:n≤100000):
 Calls prog 71 #[.pointer (some ⟨b,0,none⟩),v,.int .i64 old,ov] w fun e w'=>e=.returned (.int .i64 0)∧Below w.heap.size w w':=by
 have HS:=aa (LW v n w h hl);clear h;go_enter func71,ntmps71;go_wp2_with (first|(go_at_call 112;refine HS.out.mono ?_;rintro e w1 ⟨rfl,b⟩;have HB:=aa b;clear b)|fail);go_ret;exact⟨rfl,HB.out⟩
def ji(ts:List Int):Bool:=ts.all fun z=>decide (z=0)
theorem LX(ts:List Int)(k:Nat)(hk:k<ts.length):ji (ts.take (k+1))=(ji (ts.take k)&&decide (ts.getD k 0=0)):=by
 unfold ji;rw[List.take_succ_eq_append_getElem hk,List.all_append];simp[getD,hk]
theorem LY(ts:List Int)(k:Nat)(hk:k<ts.length)(h:ts.getD k 0≠0):ji ts=false:=by
 cases hz:ji ts with
 |false=>rfl
 |true=>
  unfold ji at hz;rw[List.all_eq_true] at hz;exact absurd (of_decide_eq_true (hz (ts.getD k 0) (by simp[getD,hk]))) h
theorem LZ(v:Value)(ts:List Int)(w:World)(h:Rd .u8 w v ts):
 Calls prog 67 #[v] w fun e w'=>e=.returned (.bool (ji ts))∧w'=w:=by
 have hm:=h.len;unfold maxLen at hm;rcases h.parts with⟨a,cap,rfl,hlow⟩|⟨b,off,cap,rfl,hbw,hcell⟩;all_goals
  clear h;go_enter func67,ntmps67;go_wp2;go_loop [7] (fun i=>∃k:Nat,k≤ts.length∧i=.int .i64 k∧ji (ts.take k)=true) (fun i=>ts.length-(intOf i).toNat)
  case atStart=>exact⟨0,Nat.zero_le _,rfl,rfl⟩
  case round=>
   obtain⟨k,hk,rfl,he⟩:=hrel;have HE:=aa he;clear he;by_cases hlt:k<ts.length
   ·first
    |omega
    |(
     have c1:=hcell k hlt;have HN:=aa (LY ts k hlt);have HS:=aa (LX ts k hlt);clear hcell;generalize ts.getD k 0=z at c1 HN HS;by_cases hz:z=0
     ·subst hz;have HS2:=ae (ji (ts.take (k+1))=true) (by rw[HS.out,HE.out];rfl);go_wp2;go_round
      case rel=>exact⟨k+1,by omega,by go_num,HS2.out⟩
      case measure=>simp[intOf];omega
     ·have hb:(z !=0)=true:=(by simpa using hz);have HF:=aa (HN.out hz);go_wp2;go_ret;exact⟨bX (by rw[HF.out]),rfl⟩)
   ·have HF:=ae (ji ts=true) (by have h:=HE.out;rw[List.take_of_length_le (by omega)] at h;exact h);go_wp2;go_ret;exact⟨bX (by rw[HF.out]),rfl⟩
end
end Go.Proofs.YtpplnhkpcpieoaaGreatDoor
