/- A user at a node: (walker).may, (walker).enter. (walker).walk: the steps, told. (walker).walk: between the rounds. -/
import Derived.Test.YtplieplmhdfndaaGreatDoorZa43
import Derived.Test.YtplieplmhdfndaaGreatDoorZa39
namespace Go.Proofs.YtplieplmhdfndaaGreatDoor
set_option linter.unusedVariables false
set_option linter.unusedSimpArgs false
open Go.RowKit

theorem infoWk : (Tryz.prog.info? 90).map (·.size) = some 3 := by kernel_rfl
set_option maxRecDepth 100000 in
set_option maxHeartbeats 4000000 in
theorem may_any (bs bn : Nat) (C : Int) (L : List Nd) (ps : Array Value) (w : World) (h : OpS w bs bn C L ps) (hL : L.length ≤ 1048576) (uid gid want : Int) (i : Nat) (hi : AtN L i) :
    Calls Tryz.prog 116 #[.agg #[.pointer (some ⟨bs, 0, none⟩), .int .i64 uid, .int .i64 gid], .int .i64 (i : Int), .int .i64 want] w fun e w' => e = .returned (.bool (mayB (ndAt L i).m (ndAt L i).u (ndAt L i).g uid gid want)) ∧ Below w.heap.size w w' := by
  obtain ⟨W1, hW1⟩ : ∃ W1, W1 = w.alloc (.cells #[.pointer (some ⟨bs, 0, none⟩), .int .i64 uid, .int .i64 gid] 90) := ⟨_, rfl⟩
  have b1 : Below w.heap.size w W1 := by rw [hW1]; exact (Below.refl _ _).alloc (Nat.le_refl _) _
  have k1 : Blk W1 w.heap.size #[.pointer (some ⟨bs, 0, none⟩), .int .i64 uid, .int .i64 gid] 90 := by rw [hW1]; exact Blk.new w _ _
  have o1 := h.below b1
  obtain ⟨p, hp, hn⟩ := o1.nd.cell hi.2.1
  obtain ⟨g, a, c, dp, rfl, hg, _, _, _, _⟩ := hn.some hi.2.2
  obtain ⟨x, hx⟩ : ∃ x, x = ndAt L i := ⟨_, rfl⟩
  rw [← hx] at hg ⊢
  obtain ⟨n, hn'⟩ : ∃ n, n = x.d.length := ⟨_, rfl⟩
  rw [← hn'] at hg
  obtain ⟨N, hN⟩ : ∃ N, N = L.length := ⟨_, rfl⟩
  have hiN : i < N := by rw [hN]; exact hi.2.1
  have c4 : W1.cell? ⟨bs, 1, none⟩ = some (.slice (some ⟨bn, 0, none⟩) N N) := by rw [hN]; exact (o1.st.cell 1).trans rfl
  have hNL : N ≤ 1048576 := by rw [hN]; exact hL
  have hr : W1.rangeAt g 0 [.int .i64 x.k, .int .i64 x.l, .int .i64 x.m, .int .i64 x.u, .int .i64 x.g, .int .i64 x.p, .int .i64 x.e, .int .i64 x.t, .int .i64 x.c, .slice a n c] := fun j v hv => by
    rw [Nat.zero_add, hg.cell j]
    have hj : j < 10 := (List.getElem?_eq_some_iff.1 hv).1
    rw [← hv]
    match j, hj with
    | 0, _ => rfl
    | 1, _ => rfl
    | 2, _ => rfl
    | 3, _ => rfl
    | 4, _ => rfl
    | 5, _ => rfl
    | 6, _ => rfl
    | 7, _ => rfl
    | 8, _ => rfl
    | 9, _ => rfl
  have q0 := (k1.cell 0).trans (show _ = some (Value.pointer (some ⟨bs, 0, none⟩)) from rfl)
  have q1 := (k1.cell 1).trans (show _ = some (Value.int .i64 uid) from rfl)
  have q2 := (k1.cell 2).trans (show _ = some (Value.int .i64 gid) from rfl)
  have HS := hide (And.intro q0 (And.intro q1 (And.intro q2 (And.intro c4 (And.intro hp hr)))))
  have HW1 := hide hW1
  have HB1 := hide b1
  clear h hL hi b1 k1 o1 hp hg hx hn hN c4 hr q0 q1 q2 hW1 hn'
  obtain ⟨q, hq⟩ : ∃ q, q = w.heap.size := ⟨_, rfl⟩
  go_enter Tryz.func116, Tryz.ntmps116
  go_upto_region 1 with fail
  rw [← HW1.out, ← hq]
  rw [← hq] at HS
  clear hq HW1
  refine wp_region_noPanic ?_
  refine wp_region_held_drew (S := fun w' => w'.cell? ⟨q, 0, none⟩ = some (.pointer (some ⟨bs, 0, none⟩)) ∧ w'.cell? ⟨q, 1, none⟩ = some (.int .i64 uid) ∧ w'.cell? ⟨q, 2, none⟩ = some (.int .i64 gid) ∧ w'.cell? ⟨bs, 1, none⟩ = some (.slice (some ⟨bn, 0, none⟩) N N) ∧ w'.cell? ⟨bn, i, none⟩ = some (.pointer (some ⟨g, 0, none⟩)) ∧ w'.rangeAt g 0 [.int .i64 x.k, .int .i64 x.l, .int .i64 x.m, .int .i64 x.u, .int .i64 x.g, .int .i64 x.p, .int .i64 x.e, .int .i64 x.t, .int .i64 x.c, .slice a n c]) (by kernel_rfl) HS.out (fun hH => ?_)
  refine wpAnyH_take (i := 0) (oi := _) (v := .pointer (some ⟨q, 0, none⟩)) rfl (by kernel_rfl) (by kernel_rfl) (by kernel_rfl) (fun _ _ _ h => h) (Or.inl ⟨by rfl, fun w' hw' => by go_simp⟩) hH ?_
  try simp only [Act.put, List.getElem_toArray, List.getElem_cons_zero, List.getElem_cons_succ, List.setIfInBounds_toArray, List.set_cons_zero, List.set_cons_succ]
  refine wpAnyH_take (i := 1) (oi := _) (v := .pointer (some ⟨bs, 0, none⟩)) rfl (by kernel_rfl) (by kernel_rfl) (by kernel_rfl) (fun _ _ _ h => h) (Or.inl ⟨by rfl, fun w' hw' => by have hc := hw'.1; clear hw'; go_simp⟩) hH ?_
  try simp only [Act.put, List.getElem_toArray, List.getElem_cons_zero, List.getElem_cons_succ, List.setIfInBounds_toArray, List.set_cons_zero, List.set_cons_succ]
  refine wpAnyH_take (i := 2) (oi := _) (v := .pointer (some ⟨bs, 0, none⟩)) rfl (by kernel_rfl) (by kernel_rfl) (by kernel_rfl) (fun _ _ _ h => h) (Or.inl ⟨by rfl, fun w' hw' => by go_simp⟩) hH ?_
  try simp only [Act.put, List.getElem_toArray, List.getElem_cons_zero, List.getElem_cons_succ, List.setIfInBounds_toArray, List.set_cons_zero, List.set_cons_succ]
  refine wpAnyH_take (i := 3) (oi := _) (v := .pointer (some ⟨bs, 1, none⟩)) rfl (by kernel_rfl) (by kernel_rfl) (by kernel_rfl) (fun _ _ _ h => h) (Or.inl ⟨by rfl, fun w' hw' => by go_simp⟩) hH ?_
  try simp only [Act.put, List.getElem_toArray, List.getElem_cons_zero, List.getElem_cons_succ, List.setIfInBounds_toArray, List.set_cons_zero, List.set_cons_succ]
  refine wpAnyH_take (i := 4) (oi := _) (v := .slice (some ⟨bn, 0, none⟩) N N) rfl (by kernel_rfl) (by kernel_rfl) (by kernel_rfl) (fun _ _ _ h => h) (Or.inl ⟨by rfl, fun w' hw' => by have hc := hw'.2.2.2.1; clear hw'; go_simp⟩) hH ?_
  try simp only [Act.put, List.getElem_toArray, List.getElem_cons_zero, List.getElem_cons_succ, List.setIfInBounds_toArray, List.set_cons_zero, List.set_cons_succ]
  refine wpAnyH_take (i := 5) (oi := _) (v := .int .i64 (i : Int)) rfl (by kernel_rfl) (by kernel_rfl) (by kernel_rfl) (fun _ _ _ h => h) (Or.inl ⟨by rfl, fun w' hw' => by go_simp⟩) hH ?_
  try simp only [Act.put, List.getElem_toArray, List.getElem_cons_zero, List.getElem_cons_succ, List.setIfInBounds_toArray, List.set_cons_zero, List.set_cons_succ]
  refine wpAnyH_take (i := 6) (oi := _) (v := .pointer (some ⟨bn, i, none⟩)) rfl (by kernel_rfl) (by kernel_rfl) (by kernel_rfl) (fun _ _ _ h => h) (Or.inl ⟨by rfl, fun w' hw' => by go_simp⟩) hH ?_
  try simp only [Act.put, List.getElem_toArray, List.getElem_cons_zero, List.getElem_cons_succ, List.setIfInBounds_toArray, List.set_cons_zero, List.set_cons_succ]
  refine wpAnyH_take (i := 7) (oi := _) (v := .pointer (some ⟨g, 0, none⟩)) rfl (by kernel_rfl) (by kernel_rfl) (by kernel_rfl) (fun _ _ _ h => h) (Or.inl ⟨by rfl, fun w' hw' => by have hc := hw'.2.2.2.2.1; clear hw'; go_simp⟩) hH ?_
  try simp only [Act.put, List.getElem_toArray, List.getElem_cons_zero, List.getElem_cons_succ, List.setIfInBounds_toArray, List.set_cons_zero, List.set_cons_succ]
  refine wpAnyH_take (i := 8) (oi := _) (v := .pointer (some ⟨g, 0, none⟩)) rfl (by kernel_rfl) (by kernel_rfl) (by kernel_rfl) (fun _ _ _ h => h) (Or.inl ⟨by rfl, fun w' hw' => by go_simp⟩) hH ?_
  try simp only [Act.put, List.getElem_toArray, List.getElem_cons_zero, List.getElem_cons_succ, List.setIfInBounds_toArray, List.set_cons_zero, List.set_cons_succ]
  refine wpAnyH_take (i := 9) (oi := _) (v := .pointer (some ⟨g, 0, none⟩)) rfl (by kernel_rfl) (by kernel_rfl) (by kernel_rfl) (fun _ _ _ h => h) (Or.inl ⟨by rfl, fun w' hw' => by go_simp⟩) hH ?_
  try simp only [Act.put, List.getElem_toArray, List.getElem_cons_zero, List.getElem_cons_succ, List.setIfInBounds_toArray, List.set_cons_zero, List.set_cons_succ]
  refine wpAnyH_take (i := 10) (oi := _) (v := .agg #[.int .i64 x.k, .int .i64 x.l, .int .i64 x.m, .int .i64 x.u, .int .i64 x.g, .int .i64 x.p, .int .i64 x.e, .int .i64 x.t, .int .i64 x.c, .slice a n c]) rfl (by kernel_rfl) (by kernel_rfl) (by kernel_rfl) (fun _ _ _ h => h) (yieldsIf_load_mid (by rfl) 56 _ rfl g 0 rfl [.int .i64 x.k, .int .i64 x.l, .int .i64 x.m, .int .i64 x.u, .int .i64 x.g, .int .i64 x.p, .int .i64 x.e, .int .i64 x.t, .int .i64 x.c, .slice a n c] _ (fun w' h => h.2.2.2.2.2) Tryz.underlying56 rfl infoN10) hH ?_
  try simp only [Act.put, List.getElem_toArray, List.getElem_cons_zero, List.getElem_cons_succ, List.setIfInBounds_toArray, List.set_cons_zero, List.set_cons_succ]
  refine wpAnyH_take (i := 11) (oi := _) (v := .pointer (some ⟨q, 1, none⟩)) rfl (by kernel_rfl) (by kernel_rfl) (by kernel_rfl) (fun _ _ _ h => h) (Or.inl ⟨by rfl, fun w' hw' => by go_simp⟩) hH ?_
  try simp only [Act.put, List.getElem_toArray, List.getElem_cons_zero, List.getElem_cons_succ, List.setIfInBounds_toArray, List.set_cons_zero, List.set_cons_succ]
  refine wpAnyH_take (i := 12) (oi := _) (v := .int .i64 uid) rfl (by kernel_rfl) (by kernel_rfl) (by kernel_rfl) (fun _ _ _ h => h) (Or.inl ⟨by rfl, fun w' hw' => by have hc := hw'.2.1; clear hw'; go_simp⟩) hH ?_
  try simp only [Act.put, List.getElem_toArray, List.getElem_cons_zero, List.getElem_cons_succ, List.setIfInBounds_toArray, List.set_cons_zero, List.set_cons_succ]
  refine wpAnyH_take (i := 13) (oi := _) (v := .pointer (some ⟨q, 2, none⟩)) rfl (by kernel_rfl) (by kernel_rfl) (by kernel_rfl) (fun _ _ _ h => h) (Or.inl ⟨by rfl, fun w' hw' => by go_simp⟩) hH ?_
  try simp only [Act.put, List.getElem_toArray, List.getElem_cons_zero, List.getElem_cons_succ, List.setIfInBounds_toArray, List.set_cons_zero, List.set_cons_succ]
  refine wpAnyH_take (i := 14) (oi := _) (v := .int .i64 gid) rfl (by kernel_rfl) (by kernel_rfl) (by kernel_rfl) (fun _ _ _ h => h) (Or.inl ⟨by rfl, fun w' hw' => by have hc := hw'.2.2.1; clear hw'; go_simp⟩) hH ?_
  try simp only [Act.put, List.getElem_toArray, List.getElem_cons_zero, List.getElem_cons_succ, List.setIfInBounds_toArray, List.set_cons_zero, List.set_cons_succ]
  refine wpAnyH_take (i := 15) (oi := _) (v := .int .i64 want) rfl (by kernel_rfl) (by kernel_rfl) (by kernel_rfl) (fun _ _ _ h => h) (Or.inl ⟨by rfl, fun w' hw' => by go_simp⟩) hH ?_
  try simp only [Act.put, List.getElem_toArray, List.getElem_cons_zero, List.getElem_cons_succ, List.setIfInBounds_toArray, List.set_cons_zero, List.set_cons_succ]
  have BD := hide (show Below W1.heap.size W1 W1.drew from (Below.refl _ _).drew)
  refine wpAnyH_ready (rs := [16]) (by kernel_rfl) (by simp) ?_
  refine AllReadyH.cons (o := _) rfl (fun K hK => ?_) AllReadyH.nil
  go_simp
  refine (implMay_any x.k x.l x.m x.u x.g x.p x.e x.t x.c (.slice a n c) uid gid want _).mono ?_
  rintro e w2 ⟨rfl, b2⟩
  have B2 := hide (BD.out.trans b2)
  clear b2
  refine hK.out _ _ ?_ (fun hH => ?_)
  · exact ⟨(B2.out.cell (p := ⟨q, 0, none⟩) (cell_lt HS.out.1)).trans HS.out.1, (B2.out.cell (p := ⟨q, 1, none⟩) (cell_lt HS.out.2.1)).trans HS.out.2.1, (B2.out.cell (p := ⟨q, 2, none⟩) (cell_lt HS.out.2.2.1)).trans HS.out.2.2.1, (B2.out.cell (p := ⟨bs, 1, none⟩) (cell_lt HS.out.2.2.2.1)).trans HS.out.2.2.2.1, (B2.out.cell (p := ⟨bn, i, none⟩) (cell_lt HS.out.2.2.2.2.1)).trans HS.out.2.2.2.2.1, fun j v hv => (B2.out.cell (p := ⟨g, 0 + j, none⟩) (cell_lt (HS.out.2.2.2.2.2 j v hv))).trans (HS.out.2.2.2.2.2 j v hv)⟩
  clear hK K
  try simp only [Act.put, List.getElem_toArray, List.getElem_cons_zero, List.getElem_cons_succ, List.setIfInBounds_toArray, List.set_cons_zero, List.set_cons_succ]
  refine wpAnyH_take (i := 17) (oi := _) (v := .bool (mayB x.m x.u x.g uid gid want)) rfl (by kernel_rfl) (by kernel_rfl) (by kernel_rfl) (fun _ _ _ h => h) (Or.inl ⟨by rfl, fun w' hw' => by go_simp⟩) hH ?_
  try simp only [Act.put, List.getElem_toArray, List.getElem_cons_zero, List.getElem_cons_succ, List.setIfInBounds_toArray, List.set_cons_zero, List.set_cons_succ]
  refine wpAnyH_done (by kernel_rfl) (NoPanic.normal ?_) _
  clear hH
  go_wp2
  go_ret
  exact ⟨rfl, HB1.out.trans (B2.out.mono HB1.out.size)⟩

/-- The code of looking for a name in a node. -/
def entC0 (x : Nd) (uid gid : Int) : Int := if x.k ≠ 2 then 5 else if mayB x.m x.u x.g uid gid 1 = false then 3 else 0
set_option maxRecDepth 100000 in
set_option maxHeartbeats 4000000 in
theorem enter_any (bs bn : Nat) (C : Int) (L : List Nd) (ps : Array Value) (w : World) (h : OpS w bs bn C L ps) (hL : L.length ≤ 1048576) (uid gid : Int) (i : Nat) (hi : AtN L i) :
    Calls Tryz.prog 75 #[.agg #[.pointer (some ⟨bs, 0, none⟩), .int .i64 uid, .int .i64 gid], .int .i64 (i : Int)] w fun e w' => e = .returned (.int .i64 (entC0 (ndAt L i) uid gid)) ∧ Below w.heap.size w w' := by
  obtain ⟨W1, hW1⟩ : ∃ W1, W1 = w.alloc (.cells #[.pointer (some ⟨bs, 0, none⟩), .int .i64 uid, .int .i64 gid] 90) := ⟨_, rfl⟩
  have b1 : Below w.heap.size w W1 := by rw [hW1]; exact (Below.refl _ _).alloc (Nat.le_refl _) _
  have k1 : Blk W1 w.heap.size #[.pointer (some ⟨bs, 0, none⟩), .int .i64 uid, .int .i64 gid] 90 := by rw [hW1]; exact Blk.new w _ _
  have o1 := h.below b1
  have HM := hide (may_any bs bn C L ps W1 o1 hL uid gid 1 i hi)
  obtain ⟨p, hp, hn⟩ := o1.nd.cell hi.2.1
  obtain ⟨g, a, c, dp, rfl, hg, _, _, hd0, hd1⟩ := hn.some hi.2.2
  obtain ⟨x, hx⟩ : ∃ x, x = ndAt L i := ⟨_, rfl⟩
  rw [← hx] at hg hd0 hd1 HM ⊢
  obtain ⟨N, hN⟩ : ∃ N, N = L.length := ⟨_, rfl⟩
  have hiN : i < N := by rw [hN]; exact hi.2.1
  have c4 : W1.cell? ⟨bs, 1, none⟩ = some (.slice (some ⟨bn, 0, none⟩) N N) := by rw [hN]; exact (o1.st.cell 1).trans rfl
  have hNL : N ≤ 1048576 := by rw [hN]; exact hL
  have c5 := (hg.cell 10).trans (show _ = some (Value.pointer dp) from rfl)
  have q0 := (k1.cell 0).trans (show _ = some (Value.pointer (some ⟨bs, 0, none⟩)) from rfl)
  have KB := hide k1
  have HW1 := hide hW1
  have HB1 := hide b1
  have HD := hide (And.intro hd0 hd1)
  clear h hL hi b1 k1 o1 hg hx hn hN hW1 hd0 hd1
  go_enter Tryz.func75, Tryz.ntmps75
  go_upto_region 1 with fail
  rw [← HW1.out]
  obtain ⟨q, hq⟩ : ∃ q, q = w.heap.size := ⟨_, rfl⟩
  rw [← hq] at q0 KB ⊢
  clear HW1 hq
  by_cases hk : x.k = 2
  · obtain ⟨d, hdp, _⟩ := HD.out.2 hk
    subst hdp
    go_wp2_with (first | (refine wpList_load_row rfl 90 _ rfl q rfl 90 #[.pointer (some ⟨bs, 0, none⟩), .int .i64 uid, .int .i64 gid] (0, 0) _ KB.out Tryz.underlying90 rfl infoWk ?_) | (go_at_call 116; fail))
    refine HM.out.mono ?_
    rintro e w2 ⟨rfl, b2⟩
    have B2 := hide (HB1.out.trans (b2.mono HB1.out.size))
    clear b2 HM
    cases hm : mayB x.m x.u x.g uid gid 1
    · have HE := hide (show entC0 x uid gid = 3 from by simp [entC0, hk, hm])
      clear hm hk
      go_wp2
      go_ret
      exact ⟨ret_int HE.out.symm, B2.out⟩
    · have HE := hide (show entC0 x uid gid = 0 from by simp [entC0, hk, hm])
      clear hm hk
      go_wp2
      go_ret
      exact ⟨ret_int HE.out.symm, B2.out⟩
  · have hdp := HD.out.1 hk
    subst hdp
    have HE := hide (show entC0 x uid gid = 5 from by simp [entC0, hk])
    clear hk
    go_wp2
    go_ret
    exact ⟨ret_int HE.out.symm, HB1.out⟩
end Go.Proofs.YtplieplmhdfndaaGreatDoor

namespace Go.Proofs.YtplieplmhdfndaaGreatDoor
set_option linter.unusedVariables false
set_option linter.unusedSimpArgs false
open Go.RowKit

def lenV : Value → Nat
  | .slice _ n _ => n
  | _ => 0
/-- What comes behind a link that is followed. -/
def nextH (L : List Nd) (uid gid : Int) (fw : Bool) : Nat → Nat → Nat → List ByteArray → Int × Int
  | 0, _, _, _ => (0, 14)
  | h + 1, cur, t, r => if Spl.longN (Spl.names (tgN L t)) = true then (0, 12) else goH L uid gid fw h (Spl.names (tgN L t) ++ r) (if (ndAt L t).d[0]? = some 47 then 1 else cur)
theorem goH_eq (L : List Nd) (uid gid : Int) (fw : Bool) (h : Nat) : goH L uid gid fw h = goN L uid gid fw (nextH L uid gid fw h) := by
  cases h <;> rfl
theorem goH_nil (L : List Nd) (uid gid : Int) (fw : Bool) (h cur : Nat) : goH L uid gid fw h [] cur = ((cur : Int), 0) := by
  rw [goH_eq]
  rfl
theorem goH_no (L : List Nd) (uid gid : Int) (fw : Bool) (h cur : Nat) (nm : ByteArray) (r : List ByteArray) (he : entC0 (ndAt L cur) uid gid ≠ 0) : goH L uid gid fw h (nm :: r) cur = (0, entC0 (ndAt L cur) uid gid) := by
  rw [goH_eq]
  unfold goN
  unfold entC0 at he ⊢
  by_cases h1 : (ndAt L cur).k ≠ 2
  · rw [if_pos h1, if_pos h1]
  · rw [if_neg h1, if_neg h1]
    by_cases h2 : mayB (ndAt L cur).m (ndAt L cur).u (ndAt L cur).g uid gid 1 = false
    · rw [if_pos h2, if_pos h2]
    · rw [if_neg h1, if_neg h2] at he
      exact absurd rfl he
theorem entC0_ok {x : Nd} {uid gid : Int} (he : entC0 x uid gid = 0) : x.k = 2 ∧ mayB x.m x.u x.g uid gid 1 = true := by
  unfold entC0 at he
  split at he
  · cases he
  · rename_i h1
    split at he
    · cases he
    · rename_i h2
      exact ⟨by simpa using h1, by simpa using h2⟩
theorem goH_ok (L : List Nd) (uid gid : Int) (fw : Bool) (h cur : Nat) (nm : ByteArray) (r : List ByteArray) (he : entC0 (ndAt L cur) uid gid = 0) : goH L uid gid fw h (nm :: r) cur =
    if nm = wkDot then goH L uid gid fw h r cur else if nm = wkUp then goH L uid gid fw h r (ndAt L cur).p.toNat else
    match fiN (ndAt L cur) nm with
      | none => (0, 2)
      | some e => if e.2 = 3 ∧ (fw = true ∨ r ≠ []) then nextH L uid gid fw h cur e.1 r else goH L uid gid fw h r e.1 := by
  obtain ⟨h1, h2⟩ := entC0_ok he
  rw [goH_eq]
  conv => lhs; unfold goN
  rw [if_neg (by rw [h1]; decide), if_neg (by rw [h2]; decide)]
  cases fiN (ndAt L cur) nm <;> rfl
theorem goH_dot (L : List Nd) (uid gid : Int) (fw : Bool) (h cur : Nat) (r : List ByteArray) (he : entC0 (ndAt L cur) uid gid = 0) : goH L uid gid fw h (wkDot :: r) cur = goH L uid gid fw h r cur := by
  rw [goH_ok L uid gid fw h cur _ r he, if_pos rfl]
theorem goH_up (L : List Nd) (uid gid : Int) (fw : Bool) (h cur : Nat) (r : List ByteArray) (he : entC0 (ndAt L cur) uid gid = 0) : goH L uid gid fw h (wkUp :: r) cur = goH L uid gid fw h r (ndAt L cur).p.toNat := by
  rw [goH_ok L uid gid fw h cur _ r he, if_neg (by decide), if_pos rfl]
/-- What find tells is fiN. -/
theorem fi_none {x : Nd} {nm : ByteArray} (h : fiB x.d nm = false) : fiN x nm = none := by
  unfold fiB at h
  unfold fiN
  rw [Option.isSome_eq_false_iff, Option.isNone_iff_eq_none] at h
  rw [h]
  rfl
theorem fi_some {x : Nd} {nm : ByteArray} (h : fiB x.d nm = true) : ∃ e, fiN x nm = some e ∧ (fiE x.d nm).2.1 = (e.1 : Int) ∧ (fiE x.d nm).2.2 = (e.2 : Int) := by
  unfold fiB at h
  obtain ⟨k, hk⟩ := Option.isSome_iff_exists.1 h
  refine ⟨(sIno (slotK x.d k), sKind (slotK x.d k)), by unfold fiN; rw [hk]; rfl, ?_⟩
  have hat := (firstK_lt hk).2
  unfold atK at hat
  rw [Bool.and_eq_true] at hat
  have hE : slotE x.d k = (sName (slotK x.d k), (sIno (slotK x.d k) : Int), (sKind (slotK x.d k) : Int)) := by
    unfold slotE
    rw [if_neg (by rw [right_notZero hat.1]; decide)]
  unfold fiE
  rw [hk]
  simp only [hE]
  exact ⟨trivial, trivial⟩
end Go.Proofs.YtplieplmhdfndaaGreatDoor

namespace Go.Proofs.YtplieplmhdfndaaGreatDoor
set_option linter.unusedVariables false
set_option linter.unusedSimpArgs false
open Go.RowKit

/-- Between the rounds. -/
def IwK (L : List Nd) (uid gid : Int) (fw : Bool) (R : Int × Int) (W1 : World) (nv at_ hp : Value) (wr : World) : Prop :=
  ∃ (ns : List ByteArray) (cur h : Nat), h ≤ 8 ∧ at_ = .int .i64 (cur : Int) ∧ hp = .int .i64 (8 - (h : Int)) ∧ AtN L cur ∧ RdO wr nv ns ∧ (ns.length ≤ 40 * (9 - h) ∧ ∀ x ∈ ns, x.size ≤ 512) ∧ goH L uid gid fw h ns cur = R ∧ Below W1.heap.size W1 wr
theorem long_no {l : List ByteArray} (h : Spl.longN l = false) : l.length ≤ 40 ∧ ∀ x ∈ l, x.size ≤ 512 := by
  unfold Spl.longN at h
  simp only [Bool.or_eq_false_iff, decide_eq_false_iff_not, List.any_eq_false, decide_eq_true_eq] at h
  exact ⟨by omega, fun x hx => by have := h.2 x hx; omega⟩
theorem iwk_link {L : List Nd} {uid gid : Int} {fw : Bool} {R : Int × Int} {W1 w8 : World} {v8 : Value} {tg nm : ByteArray} {r : List ByteArray} {n at_ h' b off cap base : Nat} {hp : Int}
    (hh : h' + 1 ≤ 8) (hhp : hp = 8 - ((h' + 1 : Nat) : Int)) (hat : AtN L at_) (o8 : w8.ownsRow base 9 1 v8 ((Spl.names tg).length + n) ((Spl.names tg).map Value.string ++ r.map Value.string)) (hn : n = r.length)
    (hl : (nm :: r).length ≤ 40 * (9 - (h' + 1)) ∧ ∀ x ∈ nm :: r, x.size ≤ 512) (hlf : Spl.longN (Spl.names tg) = false) (hgo : goH L uid gid fw h' (Spl.names tg ++ r) at_ = R) (hb : Below W1.heap.size W1 w8) :
    IwK L uid gid fw R W1 v8 (.int .i64 (at_ : Int)) (.int .i64 (wrap64 (hp + 1))) w8 ∧ (8 - (intOf (.int .i64 (wrap64 (hp + 1)))).toNat) * 41 + lenV v8 < (8 - (intOf (.int .i64 (8 - ((h' + 1 : Nat) : Int)))).toNat) * 41 + lenV (.slice (some ⟨b, off, none⟩) (n + 1) cap) := by
  have e : wrap64 (hp + 1) = 8 - (h' : Int) := by
    rw [hhp]
    unfold wrap64
    omega
  rw [e]
  have hno := long_no hlf
  rw [← List.map_append] at o8
  have hrd := RdO.own o8
  have hv : lenV v8 = (Spl.names tg).length + n := by
    obtain ⟨a, c, e, _⟩ := hrd
    rw [e]
    show (Spl.names tg ++ r).length = _
    rw [List.length_append, hn]
  refine ⟨⟨Spl.names tg ++ r, at_, h', by omega, rfl, rfl, hat, hrd, ⟨?_, fun x hx => ?_⟩, hgo, hb⟩, ?_⟩
  · have := hl.1
    simp only [List.length_cons] at this
    rw [List.length_append]
    omega
  · rcases List.mem_append.1 hx with hx | hx
    · exact hno.2 x hx
    · exact hl.2 x (List.mem_cons_of_mem _ hx)
  · rw [hv]
    show (8 - (8 - (h' : Int)).toNat) * 41 + ((Spl.names tg).length + n) < (8 - (8 - ((h' + 1 : Nat) : Int)).toNat) * 41 + (n + 1)
    have := hno.1
    omega
end Go.Proofs.YtplieplmhdfndaaGreatDoor
