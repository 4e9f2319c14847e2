/- The program's readWord. -/
import Derived.Test.YtnljpaohkkdjjaaGreatDoorPlW
import Derived.Test.YtnljpaohkkdjjaaGreatDoorCells
namespace Go.Proofs.YtnljpaohkkdjjaaGreatDoor
set_option linter.unusedVariables false
set_option linter.unusedSimpArgs false
open Go.RowKit

/-- How the program writes a letter of a form. -/
def codeF (f : UInt8) : Int := if f = 110 then 0 else if f = 109 then 1 else 2
/-- What readWord answers. -/
def SayR (x : Except Int (Int × List UInt8)) (lo : Nat) (n : Int) (v ev : Value) (w : World) : Prop := match x with
  | .ok y => ev = .nilIface ∧ n = y.1 ∧ w.ownsRow lo 5 1 v y.2.length (Lib.byteCells y.2)
  | .error c => ∃ m, Flt w lo m ev c
theorem infoSd : (Tryz.prog.info? 70).map (·.size) = some 2 := by kernel_rfl
theorem SayR.below {x : Except Int (Int × List UInt8)} {lo : Nat} {n : Int} {v ev : Value} {w w' : World} (h : SayR x lo n v ev w) (hb : Below w.heap.size w w') : SayR x lo n v ev w' := by
  cases x with
  | ok y => exact ⟨h.1, h.2.1, own_below h.2.2 hb⟩
  | error c => obtain ⟨m, hm⟩ := h; exact ⟨m, hm.below hb⟩
theorem say_num (x : List UInt8) : sayF 110 x = if numOk x then .ok (numV x, []) else .error 27 := rfl
theorem say_mode (x : List UInt8) : sayF 109 x = if modeOk x then .ok (modeI x, []) else .error 27 := rfl
theorem sayR_fault {b : Bool} {ev : Value} {lo : Nat} {w : World} {n z : Int} (hf : FaultIs w lo b ev 27) (hn : b = true → n = z) : SayR (if b then .ok (z, []) else .error 27) lo n (.slice none 0 0) ev w := by
  rcases hf with ⟨rfl, rfl⟩ | ⟨rfl, m, hm⟩
  · exact ⟨rfl, hn rfl, World.ownsRow_nil _ _ _ _⟩
  · exact ⟨m, hm⟩
theorem FaultIs.shapeW {w : World} {lo : Nat} {ok : Bool} {ev : Value} {c : Int} (h : FaultIs w lo ok ev c) : ev = .nilIface ∨ ∃ t x, ev = .iface t (.pointer (some x)) := by
  rcases h with ⟨_, rfl⟩ | ⟨_, m, hm⟩
  · exact .inl rfl
  · exact .inr hm.iface
theorem flt_set {w : World} {lo : Nat} {n : Nat} {ev : Value} {c : Int} (h : Flt w lo n ev c) (a : Addr) (v : Value) (ha : a.block < lo) : Flt (w.setCell a v) lo n ev c :=
  h.keep fun b o u hb hc => by rw [World.cell?_setCell_other _ _ _ _ (by intro e; rw [e] at ha; simp at ha; omega)]; exact hc
theorem fault_set {w : World} {lo : Nat} {ok : Bool} {ev : Value} {c : Int} (h : FaultIs w lo ok ev c) (a : Addr) (v : Value) (ha : a.block < lo) : FaultIs (w.setCell a v) lo ok ev c := by
  rcases h with h | ⟨h, m, h2⟩
  · exact .inl h
  · exact .inr ⟨h, m, flt_set h2 a v ha⟩
theorem own_asideW {w : World} {base : Nat} {e : TypeId} {v : Value} {n : Nat} {xs : List Value} (hr : w.ownsRow base e 1 v n xs) (a : Addr) (u : Value) (hb : a.block < base) : (w.setCell a u).ownsRow base e 1 v n xs :=
  hr.kept (w' := w.setCell a u) (row := some a.block) ⟨rfl, rfl, rfl, by simp, fun k hk hne => Below.heap_setCell w a u k (fun e => hne (by rw [e]))⟩ (by
    cases hv : v.ownBlock with
    | none => exact .inl rfl
    | some k => exact .inr (fun e => by have := (hr.lt k hv).1; injection e with e; omega))
theorem sayR_set {x : Except Int (Int × List UInt8)} {lo : Nat} {n : Int} {v ev : Value} {w : World} (h : SayR x lo n v ev w) (a : Addr) (u : Value) (ha : a.block < lo) : SayR x lo n v ev (w.setCell a u) := by
  cases x with
  | ok y => exact ⟨h.1, h.2.1, own_asideW h.2.2 a u ha⟩
  | error c => obtain ⟨m, hm⟩ := h; exact ⟨m, flt_set hm a u ha⟩
theorem sayR_mono {x : Except Int (Int × List UInt8)} {lo lo' : Nat} {n : Int} {v ev : Value} {w : World} (h : SayR x lo n v ev w) (hl : lo' ≤ lo) : SayR x lo' n v ev w := by
  cases x with
  | ok y => exact ⟨h.1, h.2.1, own_mono h.2.2 hl⟩
  | error c => obtain ⟨m, hm⟩ := h; exact ⟨m, hm.mono hl⟩
theorem sayR_text {f : UInt8} (h1 : f ≠ 110) (h2 : f ≠ 109) {x : List UInt8} {lo : Nat} {v ev : Value} {w : World} (h : RtR (textR x) lo v ev w) : SayR (sayF f x) lo 0 v ev w := by
  rw [say_text h1 h2]
  revert h
  cases textR x with
  | some t => exact fun h => ⟨h.1, rfl, h.2⟩
  | none => exact fun h => ⟨0, h.2⟩
theorem rtR_shape {o : Option (List UInt8)} {lo : Nat} {v ev : Value} {w : World} (h : RtR o lo v ev w) : (∃ a k c, v = .slice a k c) ∧ (ev = .nilIface ∨ ∃ t x, ev = .iface t (.pointer (some x))) := by
  cases o with
  | some t => obtain ⟨a, c, e⟩ := own_shapeT h.2; exact ⟨⟨a, _, c, e⟩, .inl h.1⟩
  | none => exact ⟨⟨none, 0, 0, h.1⟩, .inr h.2.iface⟩
set_option maxRecDepth 100000 in
set_option maxHeartbeats 2000000 in
theorem rwordN_any (s : ByteArray) (w : World) (hs : s.size ≤ 1048576) (hv : ErrV w) :
    Calls Tryz.prog 38 #[.string s, .int .i64 0] w fun e w' => ∃ n v ev, e = .returned (.tuple #[.agg #[.int .i64 n, v], ev]) ∧ (∃ a k c, v = .slice a k c) ∧ (ev = .nilIface ∨ ∃ t x, ev = .iface t (.pointer (some x))) ∧ SayR (sayF 110 s.data.toList) w.heap.size n v ev w' ∧ Below w.heap.size w w' := by
  have B0 := hide (show Below w.heap.size w ((w.alloc (.cells #[.int .i64 0, .slice none 0 0] 70)).alloc (.cells #[.int .i64 0, .slice none 0 0] 70)) from ((Below.refl _ _).alloc (Nat.le_refl _) _).alloc (by simp) _)
  have k1 := Blk.new (w.alloc (.cells #[.int .i64 0, .slice none 0 0] 70)) #[.int .i64 0, .slice none 0 0] 70
  rw [World.size_alloc] at k1
  have K0 := hide (And.intro ((Blk.new w #[.int .i64 0, .slice none 0 0] 70).alloc (.cells #[.int .i64 0, .slice none 0 0] 70)) k1)
  have HV := hide hv
  have hsz : ((w.alloc (.cells #[.int .i64 0, .slice none 0 0] 70)).alloc (.cells #[.int .i64 0, .slice none 0 0] 70)).heap.size = w.heap.size + 2 := by simp
  have HS := hide hsz
  clear k1 hsz hv
  go_enter Tryz.func38, Tryz.ntmps38
  go_wp2_with (go_at_call 43; fail)
  generalize ((w.alloc (.cells #[.int .i64 0, .slice none 0 0] 70)).alloc (.cells #[.int .i64 0, .slice none 0 0] 70)) = W at B0 K0 HS ⊢
  refine (rnum_any s _ hs (HV.out.below B0.out)).mono ?_
  rintro e w1 ⟨n, ev, rfl, hn, hf, b1⟩
  have q0 := K0.out.1.below b1 (by have := HS.out; omega)
  have q1 := K0.out.2.below b1 (by have := HS.out; omega)
  have c0 := (q1.cell 0).trans (show _ = some (.int .i64 0) from rfl)
  have c1 := (q1.cell 1).trans (show _ = some (.slice none 0 0) from rfl)
  have f0 := q1.frozen 0
  have f1 := q1.frozen 1
  have d0 := (q0.cell 0).trans (show _ = some (.int .i64 0) from rfl)
  have d1 := (q0.cell 1).trans (show _ = some (.slice none 0 0) from rfl)
  have g0 := q0.frozen 0
  have g1 := q0.frozen 1
  have HY := hide (show SayR (sayF 110 s.data.toList) (w.heap.size + 2) n (.slice none 0 0) ev w1 from by
    have h := sayR_fault hf hn
    rw [HS.out] at h
    exact h)
  have HE := hide (show ev = .nilIface ∨ ∃ t x, ev = .iface t (.pointer (some x)) from hf.shapeW)
  clear hn
  have HB := hide (B0.out.trans (b1.mono B0.out.size))
  have HQ := hide q0
  clear q0 q1 b1 hf K0
  go_wp2_with fail
  have Q1 := HQ.out.other ⟨w.heap.size + 1, 0, none⟩ (.int .i64 n) (by simp)
  have Q2 : Blk _ _ #[.int .i64 n, .slice none 0 0] 70 := Q1.set 0 (.int .i64 n)
  have Q3 : Blk _ _ #[.int .i64 n, .slice none 0 0] 70 := Q2.set 1 (.slice none 0 0)
  have HQ3 := hide Q3
  clear Q1 Q2 Q3 HQ
  refine bodyPost_ret (v := .tuple #[.agg #[.int .i64 n, .slice none 0 0], ev]) ?_ rfl ⟨_, _, _, rfl, ⟨_, _, _, rfl⟩, HE.out, ?_, ?_⟩
  · exact results_row_tmp rfl _ _ w.heap.size 70 #[.int .i64 n, .slice none 0 0] (0, 0) _ _ rfl rfl HQ3.out Tryz.underlying70 rfl infoSd
  · refine sayR_mono (lo := w.heap.size + 2) ?_ (by omega)
    exact sayR_set (sayR_set (sayR_set HY.out _ _ (by simp)) _ _ (by simp)) _ _ (by simp)
  · repeat (refine Below.setCell ?_ (by simp) _)
    exact HB.out
set_option maxRecDepth 100000 in
set_option maxHeartbeats 2000000 in
theorem rwordM_any (s : ByteArray) (w : World) (hs : s.size ≤ 1048576) (hv : ErrV w) :
    Calls Tryz.prog 38 #[.string s, .int .i64 1] w fun e w' => ∃ n v ev, e = .returned (.tuple #[.agg #[.int .i64 n, v], ev]) ∧ (∃ a k c, v = .slice a k c) ∧ (ev = .nilIface ∨ ∃ t x, ev = .iface t (.pointer (some x))) ∧ SayR (sayF 109 s.data.toList) w.heap.size n v ev w' ∧ Below w.heap.size w w' := by
  have B0 := hide (show Below w.heap.size w ((w.alloc (.cells #[.int .i64 0, .slice none 0 0] 70)).alloc (.cells #[.int .i64 0, .slice none 0 0] 70)) from ((Below.refl _ _).alloc (Nat.le_refl _) _).alloc (by simp) _)
  have k1 := Blk.new (w.alloc (.cells #[.int .i64 0, .slice none 0 0] 70)) #[.int .i64 0, .slice none 0 0] 70
  rw [World.size_alloc] at k1
  have K0 := hide (And.intro ((Blk.new w #[.int .i64 0, .slice none 0 0] 70).alloc (.cells #[.int .i64 0, .slice none 0 0] 70)) k1)
  have HV := hide hv
  have hsz : ((w.alloc (.cells #[.int .i64 0, .slice none 0 0] 70)).alloc (.cells #[.int .i64 0, .slice none 0 0] 70)).heap.size = w.heap.size + 2 := by simp
  have HS := hide hsz
  clear k1 hsz hv
  go_enter Tryz.func38, Tryz.ntmps38
  go_wp2_with (go_at_call 44; fail)
  generalize ((w.alloc (.cells #[.int .i64 0, .slice none 0 0] 70)).alloc (.cells #[.int .i64 0, .slice none 0 0] 70)) = W at B0 K0 HS ⊢
  refine (rmode_any s _ hs (HV.out.below B0.out)).mono ?_
  rintro e w1 ⟨n, ev, rfl, hn, hf, b1⟩
  have q0 := K0.out.1.below b1 (by have := HS.out; omega)
  have q1 := K0.out.2.below b1 (by have := HS.out; omega)
  have c0 := (q1.cell 0).trans (show _ = some (.int .i64 0) from rfl)
  have c1 := (q1.cell 1).trans (show _ = some (.slice none 0 0) from rfl)
  have f0 := q1.frozen 0
  have f1 := q1.frozen 1
  have d0 := (q0.cell 0).trans (show _ = some (.int .i64 0) from rfl)
  have d1 := (q0.cell 1).trans (show _ = some (.slice none 0 0) from rfl)
  have g0 := q0.frozen 0
  have g1 := q0.frozen 1
  have HY := hide (show SayR (sayF 109 s.data.toList) (w.heap.size + 2) n (.slice none 0 0) ev w1 from by
    have h := sayR_fault hf hn
    rw [HS.out] at h
    exact h)
  have HE := hide (show ev = .nilIface ∨ ∃ t x, ev = .iface t (.pointer (some x)) from hf.shapeW)
  clear hn
  have HB := hide (B0.out.trans (b1.mono B0.out.size))
  have HQ := hide q0
  clear q0 q1 b1 hf K0
  go_wp2_with fail
  have Q1 := HQ.out.other ⟨w.heap.size + 1, 0, none⟩ (.int .i64 n) (by simp)
  have Q2 : Blk _ _ #[.int .i64 n, .slice none 0 0] 70 := Q1.set 0 (.int .i64 n)
  have Q3 : Blk _ _ #[.int .i64 n, .slice none 0 0] 70 := Q2.set 1 (.slice none 0 0)
  have HQ3 := hide Q3
  clear Q1 Q2 Q3 HQ
  refine bodyPost_ret (v := .tuple #[.agg #[.int .i64 n, .slice none 0 0], ev]) ?_ rfl ⟨_, _, _, rfl, ⟨_, _, _, rfl⟩, HE.out, ?_, ?_⟩
  · exact results_row_tmp rfl _ _ w.heap.size 70 #[.int .i64 n, .slice none 0 0] (0, 0) _ _ rfl rfl HQ3.out Tryz.underlying70 rfl infoSd
  · refine sayR_mono (lo := w.heap.size + 2) ?_ (by omega)
    exact sayR_set (sayR_set (sayR_set HY.out _ _ (by simp)) _ _ (by simp)) _ _ (by simp)
  · repeat (refine Below.setCell ?_ (by simp) _)
    exact HB.out
set_option maxRecDepth 100000 in
set_option maxHeartbeats 2000000 in
theorem rwordT_any (f : UInt8) (h1 : f ≠ 110) (h2 : f ≠ 109) (s : ByteArray) (w : World) (hs : s.size ≤ 1048576) (hv : ErrV w) :
    Calls Tryz.prog 38 #[.string s, .int .i64 2] w fun e w' => ∃ n v ev, e = .returned (.tuple #[.agg #[.int .i64 n, v], ev]) ∧ (∃ a k c, v = .slice a k c) ∧ (ev = .nilIface ∨ ∃ t x, ev = .iface t (.pointer (some x))) ∧ SayR (sayF f s.data.toList) w.heap.size n v ev w' ∧ Below w.heap.size w w' := by
  have B0 := hide (show Below w.heap.size w ((w.alloc (.cells #[.int .i64 0, .slice none 0 0] 70)).alloc (.cells #[.int .i64 0, .slice none 0 0] 70)) from ((Below.refl _ _).alloc (Nat.le_refl _) _).alloc (by simp) _)
  have k1 := Blk.new (w.alloc (.cells #[.int .i64 0, .slice none 0 0] 70)) #[.int .i64 0, .slice none 0 0] 70
  rw [World.size_alloc] at k1
  have K0 := hide (And.intro ((Blk.new w #[.int .i64 0, .slice none 0 0] 70).alloc (.cells #[.int .i64 0, .slice none 0 0] 70)) k1)
  have HV := hide hv
  have hsz : ((w.alloc (.cells #[.int .i64 0, .slice none 0 0] 70)).alloc (.cells #[.int .i64 0, .slice none 0 0] 70)).heap.size = w.heap.size + 2 := by simp
  have HS := hide hsz
  clear k1 hsz hv
  go_enter Tryz.func38, Tryz.ntmps38
  go_wp2_with (go_at_call 45; fail)
  generalize ((w.alloc (.cells #[.int .i64 0, .slice none 0 0] 70)).alloc (.cells #[.int .i64 0, .slice none 0 0] 70)) = W at B0 K0 HS ⊢
  refine (rtext_any s _ hs).mono ?_
  rintro e w1 ⟨v, ev, rfl, hf, b1⟩
  have q0 := K0.out.1.below b1 (by have := HS.out; omega)
  have q1 := K0.out.2.below b1 (by have := HS.out; omega)
  have c0 := (q1.cell 0).trans (show _ = some (.int .i64 0) from rfl)
  have c1 := (q1.cell 1).trans (show _ = some (.slice none 0 0) from rfl)
  have f0 := q1.frozen 0
  have f1 := q1.frozen 1
  have d0 := (q0.cell 0).trans (show _ = some (.int .i64 0) from rfl)
  have d1 := (q0.cell 1).trans (show _ = some (.slice none 0 0) from rfl)
  have g0 := q0.frozen 0
  have g1 := q0.frozen 1
  have HY := hide (show SayR (sayF f s.data.toList) (w.heap.size + 2) 0 (v) ev w1 from by
    have h := sayR_text h1 h2 hf
    rw [HS.out] at h
    exact h)
  have HE := hide (show ev = .nilIface ∨ ∃ t x, ev = .iface t (.pointer (some x)) from (rtR_shape hf).2)
  obtain ⟨va, vk, vc, rfl⟩ := (rtR_shape hf).1
  have HB := hide (B0.out.trans (b1.mono B0.out.size))
  have HQ := hide q0
  clear q0 q1 b1 hf K0
  go_wp2_with fail
  have Q1 := HQ.out.other ⟨w.heap.size + 1, 1, none⟩ (.slice va vk vc) (by simp)
  have Q2 : Blk _ _ #[.int .i64 0, .slice none 0 0] 70 := Q1.set 0 (.int .i64 0)
  have Q3 : Blk _ _ #[.int .i64 0, .slice va vk vc] 70 := Q2.set 1 (.slice va vk vc)
  have HQ3 := hide Q3
  clear Q1 Q2 Q3 HQ
  refine bodyPost_ret (v := .tuple #[.agg #[.int .i64 0, .slice va vk vc], ev]) ?_ rfl ⟨_, _, _, rfl, ⟨_, _, _, rfl⟩, HE.out, ?_, ?_⟩
  · exact results_row_tmp rfl _ _ w.heap.size 70 #[.int .i64 0, .slice va vk vc] (0, 0) _ _ rfl rfl HQ3.out Tryz.underlying70 rfl infoSd
  · refine sayR_mono (lo := w.heap.size + 2) ?_ (by omega)
    exact sayR_set (sayR_set (sayR_set HY.out _ _ (by simp)) _ _ (by simp)) _ _ (by simp)
  · repeat (refine Below.setCell ?_ (by simp) _)
    exact HB.out
theorem rword_any (f : UInt8) (s : ByteArray) (w : World) (hs : s.size ≤ 1048576) (hv : ErrV w) :
    Calls Tryz.prog 38 #[.string s, .int .i64 (codeF f)] w fun e w' => ∃ n v ev, e = .returned (.tuple #[.agg #[.int .i64 n, v], ev]) ∧ (∃ a k c, v = .slice a k c) ∧ (ev = .nilIface ∨ ∃ t x, ev = .iface t (.pointer (some x))) ∧ SayR (sayF f s.data.toList) w.heap.size n v ev w' ∧ Below w.heap.size w w' := by
  by_cases h1 : f = 110
  · subst h1; exact rwordN_any s w hs hv
  by_cases h2 : f = 109
  · subst h2; exact rwordM_any s w hs hv
  have e : codeF f = 2 := by unfold codeF; rw [if_neg h1, if_neg h2]
  rw [e]
  exact rwordT_any f h1 h2 s w hs hv
end Go.Proofs.YtnljpaohkkdjjaaGreatDoor
