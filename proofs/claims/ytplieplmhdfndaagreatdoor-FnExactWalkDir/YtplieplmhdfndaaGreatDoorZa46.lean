/- The program's ways to walk a path: walkPath, walkToLast, Walk, WalkDir. -/
import Derived.Test.YtplieplmhdfndaaGreatDoorZa45
import Derived.Test.YtplieplmhdfndaaGreatDoorZa43
namespace Go.Proofs.YtplieplmhdfndaaGreatDoor
set_option linter.unusedVariables false
set_option linter.unusedSimpArgs false
open Go.RowKit

/-- What walking a path answers. -/
def wpR (L : List Nd) (uid gid : Int) (fw : Bool) (s : ByteArray) : Int × Int := if Spl.codeSP s = 0 then goH L uid gid fw 8 (Spl.names s) 1 else (0, Spl.codeSP s)
/-- What walking to the directory of the last name answers. -/
def wlR (L : List Nd) (uid gid : Int) (s : ByteArray) : Int × ByteArray × Int :=
  if Spl.codeSP s = 0 then
    match (Spl.names s).getLast? with
    | none => (0, ⟨#[]⟩, 18)
    | some nm => if nm = wkDot ∨ nm = wkUp then (0, ⟨#[]⟩, 7)
      else if (goH L uid gid true 8 (Spl.names s).dropLast 1).2 = 0 then
        (if entC0 (ndAt L (goH L uid gid true 8 (Spl.names s).dropLast 1).1.toNat) uid gid = 0 then ((goH L uid gid true 8 (Spl.names s).dropLast 1).1, nm, 0) else (0, ⟨#[]⟩, entC0 (ndAt L (goH L uid gid true 8 (Spl.names s).dropLast 1).1.toNat) uid gid))
      else (0, ⟨#[]⟩, (goH L uid gid true 8 (Spl.names s).dropLast 1).2)
  else (0, ⟨#[]⟩, Spl.codeSP s)
theorem code_long {s : ByteArray} (h : Spl.codeSP s = 0) : Spl.longN (Spl.names s) = false := by
  unfold Spl.codeSP at h
  cases hl : Spl.longN (Spl.names s) with
  | false => rfl
  | true =>
    rw [hl] at h
    split at h
    · cases h
    · split at h
      · cases h
      · split at h
        · cases h
        · simp at h
/-- Where a walk ends, somebody stands. -/
theorem goH_at {C : Int} {L : List Nd} (hR : RightS C L) (uid gid : Int) (fw : Bool) : ∀ (h : Nat) (ns : List ByteArray) (cur : Nat), AtN L cur → (goH L uid gid fw h ns cur).2 = 0 → ∃ n : Nat, (goH L uid gid fw h ns cur).1 = (n : Int) ∧ AtN L n := by
  intro h
  induction h with
  | zero =>
    intro ns
    induction ns with
    | nil => intro cur hc _; exact ⟨cur, by rw [goH_nil], hc⟩
    | cons nm r ih =>
      intro cur hc hz
      by_cases he : entC0 (ndAt L cur) uid gid = 0
      · obtain ⟨hk, _⟩ := entC0_ok he
        rw [goH_ok L uid gid fw 0 cur nm r he] at hz ⊢
        by_cases h1 : nm = wkDot
        · rw [if_pos h1] at hz ⊢; exact ih cur hc hz
        · rw [if_neg h1] at hz ⊢
          by_cases h2 : nm = wkUp
          · rw [if_pos h2] at hz ⊢
            obtain ⟨j, hj, a1, a2, a3⟩ := par_to hR hc.1 hc.2.1 hk
            rw [hj] at hz ⊢
            exact ih j ⟨a1, a2, by rw [a3]; decide⟩ hz
          · rw [if_neg h2] at hz ⊢
            cases hf : fiN (ndAt L cur) nm with
            | none => rw [hf] at hz; cases hz
            | some e =>
              rw [hf] at hz
              simp only at hz ⊢
              obtain ⟨⟨fn, hin⟩, t1, t2⟩ := fi_to hR hc.2.1 hk hf
              by_cases h3 : e.2 = 3 ∧ (fw = true ∨ r ≠ [])
              · rw [if_pos h3] at hz; cases hz
              · rw [if_neg h3] at hz ⊢
                exact ih e.1 ⟨(entN_kind hin).1.1, t1, by rw [t2]; have := (entN_kind hin).2.1; simp only at this; omega⟩ hz
      · rw [goH_no L uid gid fw 0 cur nm r he] at hz; exact absurd hz he
  | succ h ihh =>
    intro ns
    induction ns with
    | nil => intro cur hc _; exact ⟨cur, by rw [goH_nil], hc⟩
    | cons nm r ih =>
      intro cur hc hz
      by_cases he : entC0 (ndAt L cur) uid gid = 0
      · obtain ⟨hk, _⟩ := entC0_ok he
        rw [goH_ok L uid gid fw (h + 1) cur nm r he] at hz ⊢
        by_cases h1 : nm = wkDot
        · rw [if_pos h1] at hz ⊢; exact ih cur hc hz
        · rw [if_neg h1] at hz ⊢
          by_cases h2 : nm = wkUp
          · rw [if_pos h2] at hz ⊢
            obtain ⟨j, hj, a1, a2, a3⟩ := par_to hR hc.1 hc.2.1 hk
            rw [hj] at hz ⊢
            exact ih j ⟨a1, a2, by rw [a3]; decide⟩ hz
          · rw [if_neg h2] at hz ⊢
            cases hf : fiN (ndAt L cur) nm with
            | none => rw [hf] at hz; cases hz
            | some e =>
              rw [hf] at hz
              simp only at hz ⊢
              obtain ⟨⟨fn, hin⟩, t1, t2⟩ := fi_to hR hc.2.1 hk hf
              by_cases h3 : e.2 = 3 ∧ (fw = true ∨ r ≠ [])
              · rw [if_pos h3] at hz ⊢
                have en : nextH L uid gid fw (h + 1) cur e.1 r = if Spl.longN (Spl.names (tgN L e.1)) = true then (0, 12) else goH L uid gid fw h (Spl.names (tgN L e.1) ++ r) (if (ndAt L e.1).d[0]? = some 47 then 1 else cur) := rfl
                rw [en] at hz ⊢
                by_cases hl : Spl.longN (Spl.names (tgN L e.1)) = true
                · rw [if_pos hl] at hz; cases hz
                · rw [if_neg hl] at hz ⊢
                  refine ihh _ _ ?_ hz
                  split
                  · exact AtN.root hR
                  · exact hc
              · rw [if_neg h3] at hz ⊢
                exact ih e.1 ⟨(entN_kind hin).1.1, t1, by rw [t2]; have := (entN_kind hin).2.1; simp only at this; omega⟩ hz
      · rw [goH_no L uid gid fw (h + 1) cur nm r he] at hz; exact absurd hz he
/-- The last name, and where the others lie. -/
theorem RdO.snoc {w : World} {v : Value} {nm : ByteArray} {r : List ByteArray} (h : RdO w v (r ++ [nm])) : ∃ b off cap, v = .slice (some ⟨b, off, none⟩) (r.length + 1) cap ∧ r.length + 1 ≤ cap ∧ cap ≤ maxLen ∧ b < w.heap.size ∧ w.cell? ⟨b, off + r.length, none⟩ = some (.string nm) ∧ RdO w (.slice (some ⟨b, off, none⟩) r.length cap) r := by
  obtain ⟨a, cap, e, h1, h2, h3⟩ := h
  obtain ⟨b, off, rfl, hlt, hr⟩ := h3 (by simp)
  simp only [List.length_append, List.length_cons, List.length_nil, Nat.zero_add] at e h1
  refine ⟨b, off, cap, e, h1, h2, hlt, hr _ _ ?_, ⟨_, _, rfl, by omega, h2, fun _ => ⟨b, off, rfl, hlt, fun j u hu => hr j u ?_⟩⟩⟩
  · simp
  · rw [List.map_append, List.getElem?_append_left (List.getElem?_eq_some_iff.1 hu).1]; exact hu
set_option maxRecDepth 100000 in
set_option maxHeartbeats 4000000 in
theorem walkPath_any (bs bn : Nat) (C : Int) (L : List Nd) (ps : Array Value) (w : World) (h : OpS w bs bn C L ps) (hR : RightS C L) (hbd : ∀ i, i < L.length → ∀ z ∈ (ndAt L i).d, 0 ≤ z ∧ z < 256) (uid gid : Int) (fw : Bool) (s : ByteArray) (hm : s.size ≤ 9223372036854775807) :
    Calls Tryz.prog 44 #[.agg #[.pointer (some ⟨bs, 0, none⟩), .int .i64 uid, .int .i64 gid], .string s, .bool fw] w fun e w' => e = .returned (.tuple #[.int .i64 (wpR L uid gid fw s).1, .int .i64 (wpR L uid gid fw s).2]) ∧ Below w.heap.size w w' := by
  have H := hide (And.intro h (And.intro hR hbd))
  have K0 := hide (And.intro (Blk.new w #[.pointer (some ⟨bs, 0, none⟩), .int .i64 uid, .int .i64 gid] 90) (show Below w.heap.size w (w.alloc (.cells #[.pointer (some ⟨bs, 0, none⟩), .int .i64 uid, .int .i64 gid] 90)) from (Below.refl _ _).alloc (Nat.le_refl _) _))
  clear h hR hbd
  go_enter Tryz.func44, Tryz.ntmps44
  go_wp2_with (go_at_call 72; fail)
  refine (implSplit_any s _ hm).mono ?_
  rintro e w1 ⟨v1, rfl, o1, b1⟩
  have K1 := hide (And.intro (K0.out.1.below b1 K0.out.1.lt) (K0.out.2.trans (b1.mono K0.out.2.size)))
  have R1 := hide (RdO.own o1)
  clear o1 b1 K0
  by_cases hc : Spl.codeSP s = 0
  · rw [hc]
    have HR := hide (show wpR L uid gid fw s = goH L uid gid fw 8 (Spl.names s) 1 from by unfold wpR; rw [if_pos hc])
    have HN := hide (show Spl.namesSP s = Spl.names s from names_told hc)
    have HL := hide (long_no (code_long hc))
    clear hc
    go_wp2_with (first | (refine wpList_load_row rfl 90 _ rfl w.heap.size rfl 90 #[.pointer (some ⟨bs, 0, none⟩), .int .i64 uid, .int .i64 gid] (0, 0) _ K1.out.1 Tryz.underlying90 rfl infoWk ?_) | (go_at_call 73; fail))
    refine (walk_any bs bn C L ps _ (H.out.1.below K1.out.2) H.out.2.1 H.out.2.2 uid gid fw v1 (Spl.names s) (by rw [← HN.out]; exact R1.out) HL.out.1 HL.out.2).mono ?_
    rintro e w2 ⟨rfl, b2⟩
    have B2 := hide (K1.out.2.trans (b2.mono K1.out.2.size))
    clear b2
    go_wp2
    go_ret2
    rw [HR.out]
    exact ⟨rfl, B2.out⟩
  · have HR := hide (show wpR L uid gid fw s = (0, Spl.codeSP s) from by unfold wpR; rw [if_neg hc])
    have hcb : (Spl.codeSP s != 0) = true := by simpa using hc
    clear hc
    go_wp2
    go_ret2
    rw [HR.out]
    exact ⟨rfl, K1.out.2⟩
set_option maxRecDepth 100000 in
set_option maxHeartbeats 8000000 in
theorem walkToLast_any (bs bn : Nat) (C : Int) (L : List Nd) (ps : Array Value) (w : World) (h : OpS w bs bn C L ps) (hR : RightS C L) (hbd : ∀ i, i < L.length → ∀ z ∈ (ndAt L i).d, 0 ≤ z ∧ z < 256) (uid gid : Int) (s : ByteArray) (hm : s.size ≤ 9223372036854775807) :
    Calls Tryz.prog 46 #[.agg #[.pointer (some ⟨bs, 0, none⟩), .int .i64 uid, .int .i64 gid], .string s] w fun e w' => e = .returned (.tuple #[.int .i64 (wlR L uid gid s).1, .string (wlR L uid gid s).2.1, .int .i64 (wlR L uid gid s).2.2]) ∧ Below w.heap.size w w' := by
  have H := hide (And.intro h (And.intro hR hbd))
  have K0 := hide (And.intro (Blk.new w #[.pointer (some ⟨bs, 0, none⟩), .int .i64 uid, .int .i64 gid] 90) (show Below w.heap.size w (w.alloc (.cells #[.pointer (some ⟨bs, 0, none⟩), .int .i64 uid, .int .i64 gid] 90)) from (Below.refl _ _).alloc (Nat.le_refl _) _))
  clear h hR hbd
  obtain ⟨R, hRR⟩ : ∃ R, R = wlR L uid gid s := ⟨_, rfl⟩
  rw [← hRR]
  unfold wlR at hRR
  go_enter Tryz.func46, Tryz.ntmps46
  go_wp2_with (go_at_call 72; fail)
  refine (implSplit_any s _ hm).mono ?_
  rintro e w1 ⟨v1, rfl, o1, b1⟩
  have K1 := hide (And.intro (K0.out.1.below b1 K0.out.1.lt) (K0.out.2.trans (b1.mono K0.out.2.size)))
  have R1 := hide (RdO.own o1)
  clear o1 b1 K0
  by_cases hc : Spl.codeSP s = 0
  rotate_left
  · rw [if_neg hc] at hRR
    have hcb : (Spl.codeSP s != 0) = true := by simpa using hc
    clear hc
    go_wp2
    go_ret3
    rw [hRR]
    exact ⟨rfl, K1.out.2⟩
  rw [if_pos hc] at hRR
  rw [hc]
  have HL := hide (long_no (code_long hc))
  have R2 := R1.out
  rw [names_told hc] at R2
  clear hc R1
  rcases List.eq_nil_or_concat (Spl.names s) with he | ⟨r, nm, he⟩
  · rw [he] at hRR R2
    obtain ⟨a, cap, rfl, _⟩ := R2
    simp only [List.length_nil]
    have hRR2 : R = (0, ⟨#[]⟩, 18) := hRR
    clear hRR
    go_wp2
    go_ret3
    rw [hRR2]
    exact ⟨rfl, K1.out.2⟩
  rw [List.concat_eq_append] at he
  rw [he] at hRR R2 HL
  rw [List.getLast?_concat, List.dropLast_concat] at hRR
  simp only at hRR
  obtain ⟨b, off, cap, rfl, hc1, hc2, hblt, hcell, hrd⟩ := R2.snoc
  obtain ⟨n, hn⟩ : ∃ n, n = r.length := ⟨_, rfl⟩
  have HRd := hide hrd
  rw [← hn] at hc1 hcell ⊢
  have HN := hide hn
  have hcm : cap ≤ 9223372036854775807 := hc2
  have hz1 : (((n + 1 : Nat) : Int) == 0) = false := by simp; omega
  have hs1 : ((n : Int) + 1 - 1) = (n : Int) := by omega
  have HL1 := hide (show r.length ≤ 40 ∧ ∀ x ∈ r, x.size ≤ 512 from ⟨by have := HL.out.1; simp at this; omega, fun x hx => HL.out.2 x (by simp [hx])⟩)
  have HR := hide hRR
  clear hrd hn R2 hRR hc2 he HL
  go_upto_region 6 with fail
  refine wp_region_noPanic ?_
  refine wp_region_held_drew (S := fun w' => w'.cell? ⟨b, off + n, none⟩ = some (.string nm)) (by kernel_rfl) hcell (fun hH => ?_)
  refine wpAnyH_take (i := 0) (oi := _) (v := .slice (some ⟨b, off, none⟩) (n + 1) cap) rfl (by kernel_rfl) (by kernel_rfl) (by kernel_rfl) (fun _ _ _ h => h) (Or.inl ⟨by rfl, fun w' hw' => by go_simp⟩) hH ?_
  try simp only [Act.put, List.getElem_toArray, List.getElem_cons_zero, List.getElem_cons_succ, List.setIfInBounds_toArray, List.set_cons_zero, List.set_cons_succ]
  refine wpAnyH_take (i := 1) (oi := _) (v := .slice (some ⟨b, off, none⟩) (n + 1) cap) rfl (by kernel_rfl) (by kernel_rfl) (by kernel_rfl) (fun _ _ _ h => h) (Or.inl ⟨by rfl, fun w' hw' => by go_simp⟩) hH ?_
  try simp only [Act.put, List.getElem_toArray, List.getElem_cons_zero, List.getElem_cons_succ, List.setIfInBounds_toArray, List.set_cons_zero, List.set_cons_succ]
  refine wpAnyH_take (i := 2) (oi := _) (v := .int .i64 ((n : Int) + 1)) rfl (by kernel_rfl) (by kernel_rfl) (by kernel_rfl) (fun _ _ _ h => h) (Or.inl ⟨by rfl, fun w' hw' => by go_simp⟩) hH ?_
  try simp only [Act.put, List.getElem_toArray, List.getElem_cons_zero, List.getElem_cons_succ, List.setIfInBounds_toArray, List.set_cons_zero, List.set_cons_succ]
  refine wpAnyH_take (i := 3) (oi := _) (v := .int .i64 (n : Int)) rfl (by kernel_rfl) (by kernel_rfl) (by kernel_rfl) (fun _ _ _ h => h) (Or.inl ⟨by rfl, fun w' hw' => by go_simp; rw [IntKind.wrap_i64]; omega⟩) hH ?_
  try simp only [Act.put, List.getElem_toArray, List.getElem_cons_zero, List.getElem_cons_succ, List.setIfInBounds_toArray, List.set_cons_zero, List.set_cons_succ]
  refine wpAnyH_take (i := 4) (oi := _) (v := .slice (some ⟨b, off, none⟩) n cap) rfl (by kernel_rfl) (by kernel_rfl) (by kernel_rfl) (fun _ _ _ h => h) (Or.inl ⟨by rfl, fun w' hw' => by go_simp; intros; omega⟩) hH ?_
  try simp only [Act.put, List.getElem_toArray, List.getElem_cons_zero, List.getElem_cons_succ, List.setIfInBounds_toArray, List.set_cons_zero, List.set_cons_succ]
  refine wpAnyH_take (i := 5) (oi := _) (v := .slice (some ⟨b, off, none⟩) (n + 1) cap) rfl (by kernel_rfl) (by kernel_rfl) (by kernel_rfl) (fun _ _ _ h => h) (Or.inl ⟨by rfl, fun w' hw' => by go_simp⟩) hH ?_
  try simp only [Act.put, List.getElem_toArray, List.getElem_cons_zero, List.getElem_cons_succ, List.setIfInBounds_toArray, List.set_cons_zero, List.set_cons_succ]
  refine wpAnyH_take (i := 6) (oi := _) (v := .slice (some ⟨b, off, none⟩) (n + 1) cap) rfl (by kernel_rfl) (by kernel_rfl) (by kernel_rfl) (fun _ _ _ h => h) (Or.inl ⟨by rfl, fun w' hw' => by go_simp⟩) hH ?_
  try simp only [Act.put, List.getElem_toArray, List.getElem_cons_zero, List.getElem_cons_succ, List.setIfInBounds_toArray, List.set_cons_zero, List.set_cons_succ]
  refine wpAnyH_take (i := 7) (oi := _) (v := .int .i64 ((n : Int) + 1)) rfl (by kernel_rfl) (by kernel_rfl) (by kernel_rfl) (fun _ _ _ h => h) (Or.inl ⟨by rfl, fun w' hw' => by go_simp⟩) hH ?_
  try simp only [Act.put, List.getElem_toArray, List.getElem_cons_zero, List.getElem_cons_succ, List.setIfInBounds_toArray, List.set_cons_zero, List.set_cons_succ]
  refine wpAnyH_take (i := 8) (oi := _) (v := .int .i64 (n : Int)) rfl (by kernel_rfl) (by kernel_rfl) (by kernel_rfl) (fun _ _ _ h => h) (Or.inl ⟨by rfl, fun w' hw' => by go_simp; rw [IntKind.wrap_i64]; omega⟩) hH ?_
  try simp only [Act.put, List.getElem_toArray, List.getElem_cons_zero, List.getElem_cons_succ, List.setIfInBounds_toArray, List.set_cons_zero, List.set_cons_succ]
  refine wpAnyH_take (i := 9) (oi := _) (v := .pointer (some ⟨b, off + n, none⟩)) rfl (by kernel_rfl) (by kernel_rfl) (by kernel_rfl) (fun _ _ _ h => h) (Or.inl ⟨by rfl, fun w' hw' => by go_simp; intros; omega⟩) hH ?_
  try simp only [Act.put, List.getElem_toArray, List.getElem_cons_zero, List.getElem_cons_succ, List.setIfInBounds_toArray, List.set_cons_zero, List.set_cons_succ]
  refine wpAnyH_take (i := 10) (oi := _) (v := .string nm) rfl (by kernel_rfl) (by kernel_rfl) (by kernel_rfl) (fun _ _ _ h => h) (Or.inl ⟨by rfl, fun w' hw' => by have hc := hw'; clear hw'; go_simp⟩) hH ?_
  try simp only [Act.put, List.getElem_toArray, List.getElem_cons_zero, List.getElem_cons_succ, List.setIfInBounds_toArray, List.set_cons_zero, List.set_cons_succ]
  refine wpAnyH_take (i := 11) (oi := _) (v := .slice (some ⟨b, off, none⟩) n cap) rfl (by kernel_rfl) (by kernel_rfl) (by kernel_rfl) (fun _ _ _ h => h) (Or.inl ⟨by rfl, fun w' hw' => by go_simp⟩) hH ?_
  try simp only [Act.put, List.getElem_toArray, List.getElem_cons_zero, List.getElem_cons_succ, List.setIfInBounds_toArray, List.set_cons_zero, List.set_cons_succ]
  refine wpAnyH_take (i := 12) (oi := _) (v := .string nm) rfl (by kernel_rfl) (by kernel_rfl) (by kernel_rfl) (fun _ _ _ h => h) (Or.inl ⟨by rfl, fun w' hw' => by go_simp⟩) hH ?_
  try simp only [Act.put, List.getElem_toArray, List.getElem_cons_zero, List.getElem_cons_succ, List.setIfInBounds_toArray, List.set_cons_zero, List.set_cons_succ]
  refine wpAnyH_done (by kernel_rfl) (NoPanic.normal ?_) _
  clear hH hcell
  have K2 := hide (show Blk w1.drew w.heap.size #[.pointer (some ⟨bs, 0, none⟩), .int .i64 uid, .int .i64 gid] 90 ∧ Below w.heap.size w w1.drew ∧ RdO w1.drew (.slice (some ⟨b, off, none⟩) n cap) r from ⟨K1.out.1.below (Below.refl _ _).drew K1.out.1.lt, K1.out.2.drew, by rw [HN.out]; exact HRd.out.below (Below.refl _ _).drew⟩)
  generalize w1.drew = w2 at K2 ⊢
  clear K1 HRd
  by_cases hd : nm = wkDot
  · subst hd
    have HR2 := hide (show R = (0, ⟨#[]⟩, 7) from by rw [HR.out, if_pos (Or.inl rfl)])
    unfold wkDot
    go_wp2
    go_ret3
    rw [HR2.out]
    exact ⟨rfl, K2.out.2.1⟩
  have hd1 : (nm.toList == [46]) = false := ne_list hd
  by_cases hu : nm = wkUp
  · subst hu
    have HR2 := hide (show R = (0, ⟨#[]⟩, 7) from by rw [HR.out, if_pos (Or.inr rfl)])
    unfold wkUp
    go_wp2
    go_ret3
    rw [HR2.out]
    exact ⟨rfl, K2.out.2.1⟩
  have hd2 : (nm.toList == [46, 46]) = false := ne_list hu
  have HR2 := HR.out
  rw [if_neg (by simp [hd, hu])] at HR2
  clear HR hd hu
  obtain ⟨Q, hQ⟩ : ∃ Q, Q = goH L uid gid true 8 r 1 := ⟨_, rfl⟩
  rw [← hQ] at HR2
  go_wp2_with (first | (refine wpList_load_row rfl 90 _ rfl w.heap.size rfl 90 #[.pointer (some ⟨bs, 0, none⟩), .int .i64 uid, .int .i64 gid] (0, 0) _ K2.out.1 Tryz.underlying90 rfl infoWk ?_) | (go_at_call 73; fail))
  refine (walk_any bs bn C L ps _ (H.out.1.below K2.out.2.1) H.out.2.1 H.out.2.2 uid gid true _ r K2.out.2.2 HL1.out.1 HL1.out.2).mono ?_
  rintro e w3 ⟨rfl, b3⟩
  have K3 := hide (show Blk w3 w.heap.size #[.pointer (some ⟨bs, 0, none⟩), .int .i64 uid, .int .i64 gid] 90 ∧ Below w.heap.size w w3 from ⟨K2.out.1.below b3 K2.out.1.lt, K2.out.2.1.trans (b3.mono K2.out.2.1.size)⟩)
  rw [← hQ]
  have HQ := hide hQ
  clear b3 K2 hQ
  by_cases hq0 : Q.2 = 0
  rotate_left
  · rw [if_neg hq0] at HR2
    have hqb : (Q.2 == 0) = false := by simpa using hq0
    have hqc : (Q.2 != 0) = true := by simpa using hq0
    have HR3 := hide HR2
    clear HR2 hq0
    go_wp2
    go_ret3
    rw [HR3.out]
    exact ⟨rfl, K3.out.2⟩
  rw [if_pos hq0] at HR2
  obtain ⟨m, hm1, hm2⟩ := goH_at H.out.2.1 uid gid true 8 r 1 (AtN.root H.out.2.1) (by rw [← HQ.out]; exact hq0)
  rw [← HQ.out] at hm1
  rw [hm1] at HR2
  rw [hm1, hq0]
  rw [Int.toNat_natCast] at HR2
  have HR3 := hide HR2
  have HM := hide hm2
  clear HR2 hm2 hm1 hq0
  go_wp2_with (first | (refine wpList_load_row rfl 90 _ rfl w.heap.size rfl 90 #[.pointer (some ⟨bs, 0, none⟩), .int .i64 uid, .int .i64 gid] (0, 0) _ K3.out.1 Tryz.underlying90 rfl infoWk ?_) | (go_at_call 75; fail))
  refine (enter_any bs bn C L ps _ (H.out.1.below K3.out.2) (by have := H.out.2.1.len.2; omega) uid gid m HM.out).mono ?_
  rintro e w4 ⟨rfl, b4⟩
  have K4 := hide (K3.out.2.trans (b4.mono K3.out.2.size))
  clear b4 K3
  obtain ⟨ec, hec⟩ : ∃ ec, ec = entC0 (ndAt L m) uid gid := ⟨_, rfl⟩
  rw [← hec] at HR3 ⊢
  clear hec
  by_cases he0 : ec = 0
  · have HR4 := hide (show R = ((m : Int), nm, 0) from by rw [HR3.out, if_pos he0])
    subst he0
    go_wp2
    go_ret3
    rw [HR4.out]
    exact ⟨rfl, K4.out⟩
  · have HR4 := hide (show R = (0, ⟨#[]⟩, ec) from by rw [HR3.out, if_neg he0])
    have hqc : (ec != 0) = true := by simpa using he0
    clear he0
    go_wp2
    go_ret3
    rw [HR4.out]
    exact ⟨rfl, K4.out⟩
end Go.Proofs.YtplieplmhdfndaaGreatDoor
