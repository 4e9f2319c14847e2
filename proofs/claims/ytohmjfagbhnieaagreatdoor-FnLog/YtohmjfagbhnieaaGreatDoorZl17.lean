/- Records of a log: LogRecord of program and model. An operation's helpers: szOp, toOp, eqOp, markOp, heldOp. -/
import Derived.Test.YtohmjfagbhnieaaGreatDoorZl16
import Derived.Test.YtohmjfagbhnieaaGreatDoorZl05
import Derived.Test.YtohmjfagbhnieaaGreatDoorZl02
namespace Go.Proofs.YtohmjfagbhnieaaGreatDoor
set_option linter.unusedVariables false
set_option linter.unusedSimpArgs false
open Go.RowKit

theorem le_bdL : ∀ (m n : Nat), ∀ z ∈ le m n, 0 ≤ z ∧ z < 256
  | 0, _, z, h => by cases h
  | m + 1, n, z, h => by
    rw [le] at h
    rcases List.mem_cons.mp h with rfl | h
    · omega
    · exact le_bdL m (n / 256) z h
theorem bytesO_bd (K : Nat) (A B : Int) (U G : Nat) (p q : ByteArray) (ds : List Int) (h : ∀ z ∈ ds, 0 ≤ z ∧ z < 256) : ∀ z ∈ bytesO K A B U G p q ds, 0 ≤ z ∧ z < 256 := by
  intro z hz
  unfold bytesO partsO at hz
  simp only [List.flatten_cons, List.flatten_nil, List.mem_append, List.append_nil] at hz
  rcases hz with hz | hz | hz | hz | hz | hz | hz | hz | hz | hz | hz
  all_goals first | exact le_bdL _ _ z hz | exact strI_bd _ z hz | exact h z hz
theorem encO_bd (K A B U G : Int) (p q : ByteArray) (ds : List Int) (h : ∀ z ∈ ds, 0 ≤ z ∧ z < 256) : ∀ z ∈ encO K A B U G p q ds, 0 ≤ z ∧ z < 256 := by
  unfold encO
  split
  · exact bytesO_bd _ _ _ _ _ _ _ _ h
  · intro z hz; cases hz
def headO (n m : Nat) : List Int := le 8 n ++ le 4 m
theorem headO_len (n m : Nat) : (headO n m).length = 12 := by simp [headO, le_len]
theorem headO_bd (n m : Nat) : ∀ z ∈ headO n m, 0 ≤ z ∧ z < 256 := by
  intro z hz
  rcases List.mem_append.1 hz with hz | hz <;> exact le_bdL _ _ z hz
/-- The sum of a record. -/
def sumO (n : Nat) (E : List Int) : Nat := Crc.crc (headO n E.length ++ E)
theorem sumO_lt (n : Nat) (E : List Int) (h : ∀ z ∈ E, 0 ≤ z ∧ z < 256) : sumO n E < 4294967296 := by
  refine Crc.xor_lt _ _ (Crc.fold_lt _ ?_) (by omega)
  intro z hz
  rcases List.mem_append.1 hz with hz | hz
  · exact headO_bd _ _ z hz
  · exact h z hz
/-- A record: its head, its sum, its operation. -/
def recO (n : Nat) (E : List Int) : List Int := headO n E.length ++ (le 4 (sumO n E) ++ E)
theorem recO_len (n : Nat) (E : List Int) : (recO n E).length = 16 + E.length := by
  simp only [recO, List.length_append, headO_len, le_len]
  omega

theorem tog1_2 (v0 v1 : Value) (b0 b1 : List Int) (w : World) (h0 : Rd .u8 w v0 b0) (h1 : Rd .u8 w v1 b1) (hl : (b0 ++ b1).length ≤ 1000000) :
    Calls Tryz.prog 28 #[.slice (some ⟨w.heap.size, 0, none⟩) 2 2] (w.alloc (.cells #[v0, v1] 22)) fun e w' => ∃ v', e = .returned v' ∧ w'.ownsRow w.heap.size 5 1 v' (b0 ++ b1).length ((b0 ++ b1).map (Value.int .u8)) ∧ Below w.heap.size w w' := by
  have bN := (Below.refl w.heap.size w).alloc (Nat.le_refl _) (.cells #[v0, v1] 22)
  have he : ([b0, b1] : List (List Int)).flatten = b0 ++ b1 := by simp
  have h := tog_any w.heap.size 2 2 [v0, v1] [b0, b1] (w.alloc (.cells #[v0, v1] 22)) (fun j u hu => by
    rw [cell_of_row _ _ j _ _ _ (heap_alloc_new w _)]
    simpa using hu) ⟨h0.below bN, h1.below bN, trivial⟩ rfl (by omega) (by rw [he]; exact hl) (by simp)
  rw [he] at h
  refine h.mono ?_
  rintro e w' ⟨v', rfl, ho, hb⟩
  exact ⟨v', rfl, own_mono ho (by simp), bN.trans (hb.mono (by simp))⟩

theorem tog1_3 (v0 v1 v2 : Value) (b0 b1 b2 : List Int) (w : World) (h0 : Rd .u8 w v0 b0) (h1 : Rd .u8 w v1 b1) (h2 : Rd .u8 w v2 b2) (hl : (b0 ++ (b1 ++ b2)).length ≤ 1000000) :
    Calls Tryz.prog 28 #[.slice (some ⟨w.heap.size, 0, none⟩) 3 3] (w.alloc (.cells #[v0, v1, v2] 22)) fun e w' => ∃ v', e = .returned v' ∧ w'.ownsRow w.heap.size 5 1 v' (b0 ++ (b1 ++ b2)).length ((b0 ++ (b1 ++ b2)).map (Value.int .u8)) ∧ Below w.heap.size w w' := by
  have bN := (Below.refl w.heap.size w).alloc (Nat.le_refl _) (.cells #[v0, v1, v2] 22)
  have he : ([b0, b1, b2] : List (List Int)).flatten = b0 ++ (b1 ++ b2) := by simp
  have h := tog_any w.heap.size 3 3 [v0, v1, v2] [b0, b1, b2] (w.alloc (.cells #[v0, v1, v2] 22)) (fun j u hu => by
    rw [cell_of_row _ _ j _ _ _ (heap_alloc_new w _)]
    simpa using hu) ⟨h0.below bN, h1.below bN, h2.below bN, trivial⟩ rfl (by omega) (by rw [he]; exact hl) (by simp)
  rw [he] at h
  refine h.mono ?_
  rintro e w' ⟨v', rfl, ho, hb⟩
  exact ⟨v', rfl, own_mono ho (by simp), bN.trans (hb.mono (by simp))⟩

theorem join1_2 (v0 v1 : Value) (b0 b1 : List Int) (w : World) (h0 : Rd .u8 w v0 b0) (h1 : Rd .u8 w v1 b1) (hl : (b0 ++ b1).length ≤ 1000000) :
    Calls Tryz.prog 24 #[.slice (some ⟨w.heap.size, 0, none⟩) 2 2] (w.alloc (.cells #[v0, v1] 22)) fun e w' => ∃ v', e = .returned v' ∧ w'.ownsRow w.heap.size 5 1 v' (b0 ++ b1).length ((b0 ++ b1).map (Value.int .u8)) ∧ Below w.heap.size w w' := by
  have bN := (Below.refl w.heap.size w).alloc (Nat.le_refl _) (.cells #[v0, v1] 22)
  have he : ([b0, b1] : List (List Int)).flatten = b0 ++ b1 := by simp
  have h := joinL_any w.heap.size 2 2 [v0, v1] [b0, b1] (w.alloc (.cells #[v0, v1] 22)) (fun j u hu => by
    rw [cell_of_row _ _ j _ _ _ (heap_alloc_new w _)]
    simpa using hu) ⟨h0.below bN, h1.below bN, trivial⟩ rfl (by omega) (by rw [he]; exact hl) (by simp)
  rw [he] at h
  refine h.mono ?_
  rintro e w' ⟨v', rfl, ho, hb⟩
  exact ⟨v', rfl, own_mono ho (by simp), bN.trans (hb.mono (by simp))⟩

theorem join1_3 (v0 v1 v2 : Value) (b0 b1 b2 : List Int) (w : World) (h0 : Rd .u8 w v0 b0) (h1 : Rd .u8 w v1 b1) (h2 : Rd .u8 w v2 b2) (hl : (b0 ++ (b1 ++ b2)).length ≤ 1000000) :
    Calls Tryz.prog 24 #[.slice (some ⟨w.heap.size, 0, none⟩) 3 3] (w.alloc (.cells #[v0, v1, v2] 22)) fun e w' => ∃ v', e = .returned v' ∧ w'.ownsRow w.heap.size 5 1 v' (b0 ++ (b1 ++ b2)).length ((b0 ++ (b1 ++ b2)).map (Value.int .u8)) ∧ Below w.heap.size w w' := by
  have bN := (Below.refl w.heap.size w).alloc (Nat.le_refl _) (.cells #[v0, v1, v2] 22)
  have he : ([b0, b1, b2] : List (List Int)).flatten = b0 ++ (b1 ++ b2) := by simp
  have h := joinL_any w.heap.size 3 3 [v0, v1, v2] [b0, b1, b2] (w.alloc (.cells #[v0, v1, v2] 22)) (fun j u hu => by
    rw [cell_of_row _ _ j _ _ _ (heap_alloc_new w _)]
    simpa using hu) ⟨h0.below bN, h1.below bN, h2.below bN, trivial⟩ rfl (by omega) (by rw [he]; exact hl) (by simp)
  rw [he] at h
  refine h.mono ?_
  rintro e w' ⟨v', rfl, ho, hb⟩
  exact ⟨v', rfl, own_mono ho (by simp), bN.trans (hb.mono (by simp))⟩

theorem isRec_any (n : Int) (w : World) : Calls Tryz.prog 26 #[.int .i64 n] w fun e w' => e = .returned (.bool (wi n 1 1099511627776)) ∧ w = w' := by
  by_cases h1 : 1 ≤ n
  · have HR := hide (show wi n 1 1099511627776 = decide (n ≤ 1099511627776) from by simp [wi, h1])
    go_enter Tryz.func26, Tryz.ntmps26
    go_wp2
    go_ret
    exact ⟨ret_bool (by rw [HR.out]), rfl⟩
  · have HR := hide (show wi n 1 1099511627776 = false from by simp [wi]; omega)
    go_enter Tryz.func26, Tryz.ntmps26
    go_wp2
    go_ret
    exact ⟨ret_bool (by rw [HR.out]), rfl⟩
set_option maxRecDepth 100000 in
set_option maxHeartbeats 1000000 in
theorem recSum_any (n : Nat) (E : List Int) (v0 v1 : Value) (w : World) (h0 : Rd .u8 w v0 (headO n E.length)) (h1 : Rd .u8 w v1 E) (hE : ∀ z ∈ E, 0 ≤ z ∧ z < 256) (hl : E.length ≤ 900000) :
    Calls Tryz.prog 31 #[v0, v1] w fun e w' => e = .returned (.int .u32 (sumO n E : Nat)) ∧ Below w.heap.size w w' := by
  have HR := hide (And.intro h0 (And.intro h1 hE))
  have HL := hide (show (headO n E.length ++ E).length ≤ 1000000 from by rw [List.length_append, headO_len]; omega)
  obtain ⟨a0, c0, rfl⟩ : ∃ a c, v0 = .slice a 12 c := by obtain ⟨a, c, e, _⟩ := h0; rw [headO_len] at e; exact ⟨a, c, e⟩
  obtain ⟨a1, c1, rfl⟩ : ∃ a c, v1 = .slice a E.length c := by obtain ⟨a, c, e, _⟩ := h1; exact ⟨a, c, e⟩
  clear h0 h1 hE
  go_enter Tryz.func31, Tryz.ntmps31
  go_wp2_with (go_at_call 28; fail)
  refine (tog1_2 _ _ _ _ _ HR.out.1 HR.out.2.1 HL.out).mono ?_
  rintro e w1 ⟨x, rfl, o1, b1⟩
  have H1 := hide (And.intro (Rd.own o1) b1)
  clear o1 b1
  go_wp2_with fail
  refine (implCrc_any x (headO n E.length ++ E) _ H1.out.1 (fun z hz => by
    rcases List.mem_append.1 hz with hz | hz
    · exact headO_bd _ _ z hz
    · exact HR.out.2.2 z hz)).mono ?_
  rintro e w2 ⟨he, hw2⟩
  subst he
  have B2 := hide (show Below w.heap.size w w2 from by rw [hw2]; exact H1.out.2)
  clear hw2
  go_wp2
  go_ret
  exact ⟨rfl, B2.out⟩

def rightL (n : Int) (r : Bool) : Bool := wi n 1 1099511627776 && r
def codeLR (n K U G : Int) (p q : ByteArray) (m : Nat) : Int := if rightL n (rightO K U G p q m) then 0 else 7
def encL (n K A B U G : Int) (p q : ByteArray) (ds : List Int) : List Int := if rightL n (rightO K U G p q ds.length) then recO n.toNat (encO K A B U G p q ds) else []
theorem encL_len (n K A B U G : Int) (p q : ByteArray) (ds : List Int) : (encL n K A B U G p q ds).length ≤ 5165 := by
  unfold encL
  split
  · have := encO_len K A B U G p q ds
    rw [recO_len]
    omega
  · simp

set_option maxRecDepth 100000 in
set_option maxHeartbeats 2000000 in
theorem implLR_any (n K A B U G : Int) (p q : ByteArray) (dv : Value) (ds : List Int) (w : World) (h : Rd .u8 w dv ds) (hbd : ∀ z ∈ ds, 0 ≤ z ∧ z < 256) (hp : p.size ≤ maxLen) (hq : q.size ≤ maxLen) (hg : ErrT w) :
    Calls Tryz.prog 10 #[.int .i64 n, .agg (opC K A B U G p q dv)] w fun e w' => ∃ v', e = .returned (.tuple #[v', .int .i64 (codeLR n K U G p q ds.length)]) ∧ w'.ownsRow w.heap.size 5 1 v' (encL n K A B U G p q ds).length ((encL n K A B U G p q ds).map (Value.int .u8)) ∧ Below w.heap.size w w' := by
  have HR := hide h
  have HN := hide (And.intro hp hq)
  have HBD := hide (encO_bd K A B U G p q ds hbd)
  have HEL := hide (encO_len K A B U G p q ds)
  have HE := hide hg
  have K0 := hide (And.intro (Blk.new w (opC K A B U G p q dv) 30) (show Below w.heap.size w (w.alloc (.cells (opC K A B U G p q dv) 30)) from (Below.refl _ _).alloc (Nat.le_refl _) _))
  clear h hbd hp hq
  cases hw : wi n 1 1099511627776 with
  | false =>
    have HC := hide (And.intro (show codeLR n K U G p q ds.length = 7 from by simp [codeLR, rightL, hw]) (show encL n K A B U G p q ds = [] from by simp [encL, rightL, hw]))
    go_enter Tryz.func10, Tryz.ntmps10
    go_wp2_with (go_at_call 26; fail)
    refine (isRec_any n _).mono ?_
    rintro e w1 ⟨rfl, rfl⟩
    rw [hw]
    go_wp2
    go_ret2
    rw [HC.out.1, HC.out.2]
    exact ⟨_, rfl, World.ownsRow_nil _ _ _ _, K0.out.2⟩
  | true =>
    have hn0 : 1 ≤ n ∧ n ≤ 1099511627776 := by simpa [wi] using hw
    obtain ⟨nn, rfl⟩ := Int.eq_ofNat_of_zero_le (show 0 ≤ n by omega)
    go_enter Tryz.func10, Tryz.ntmps10
    go_wp2_with (go_at_call 26; fail)
    refine (isRec_any (nn : Int) _).mono ?_
    rintro e w1 ⟨rfl, rfl⟩
    rw [hw]
    go_wp2_with (first | (refine wpList_load_row rfl 30 _ rfl w.heap.size rfl 30 (opC K A B U G p q dv) (0, 0) _ K0.out.1 Tryz.underlying30 rfl infoO8 ?_) | (go_at_call 27; fail))
    refine (implEO_any K A B U G p q dv ds _ (HR.out.below K0.out.2) HN.out.1 HN.out.2 (HE.out.below K0.out.2)).mono ?_
    rintro e w2 ⟨v2, rfl, o2, b2⟩
    have B2 := hide (K0.out.2.trans (b2.mono K0.out.2.size))
    have O2 := hide (Rd.own o2)
    clear o2 b2 K0
    cases hr : rightO K U G p q ds.length with
    | false =>
      have HC := hide (And.intro (show codeLR (nn : Int) K U G p q ds.length = 7 from by simp [codeLR, rightL, hr]) (show encL (nn : Int) K A B U G p q ds = [] from by simp [encL, rightL, hr]))
      rw [show codeEO K U G p q ds.length = 7 from by simp [codeEO, hr]]
      obtain ⟨a2, c2, e2⟩ : ∃ a c, v2 = .slice a (encO K A B U G p q ds).length c := by obtain ⟨a, c, e, _⟩ := O2.out; exact ⟨a, c, e⟩
      rw [e2]
      clear O2 e2
      go_wp2
      go_ret2
      rw [HC.out.1, HC.out.2]
      exact ⟨_, rfl, World.ownsRow_nil _ _ _ _, B2.out⟩
    | true =>
      have HC := hide (And.intro (show codeLR (nn : Int) K U G p q ds.length = 0 from by simp [codeLR, rightL, hr, hw]) (show encL (nn : Int) K A B U G p q ds = recO nn (encO K A B U G p q ds) from by simp [encL, rightL, hr, hw]))
      rw [show codeEO K U G p q ds.length = 0 from by simp [codeEO, hr]]
      generalize encO K A B U G p q ds = E at O2 HC HBD HEL
      have hel := HEL.out
      obtain ⟨a2, c2, rfl⟩ : ∃ a c, v2 = .slice a E.length c := by obtain ⟨a, c, e, _⟩ := O2.out; exact ⟨a, c, e⟩
      clear hr
      have hw64 : IntKind.u64.wrap (nn : Int) = ((nn : Nat) : Int) := by simp [IntKind.wrap, IntKind.signed, IntKind.bits]; omega
      have hw32 : IntKind.u32.wrap (E.length : Int) = ((E.length : Nat) : Int) := wrapN32 E.length (by omega)
      go_wp2_with (go_at_call 29; fail)
      try rw [hw64]
      refine (num64_any nn _ (by omega)).mono ?_
      rintro e w3 ⟨g3, c3, rfl, o3, b3⟩
      have B3 := hide (B2.out.trans (b3.mono B2.out.size))
      have O3 := hide (Rd.own o3)
      have E3 := hide (O2.out.below b3)
      clear o3 b3 B2 O2
      go_wp2_with (go_at_call 30; fail)
      try rw [hw32]
      refine (num32_any E.length _ (by omega)).mono ?_
      rintro e w4 ⟨g4, c4, rfl, o4, b4⟩
      have B4 := hide (B3.out.trans (b4.mono B3.out.size))
      have O4 := hide (Rd.own o4)
      have P4 := hide (O3.out.below b4)
      have E4 := hide (E3.out.below b4)
      clear o4 b4 B3 O3 E3
      go_wp2_with (go_at_call 28; fail)
      refine (tog1_2 _ _ (le 8 nn) (le 4 E.length) _ P4.out O4.out (by rw [List.length_append, le_len, le_len]; omega)).mono ?_
      rintro e w5 ⟨hd, rfl, o5, b5⟩
      have B5 := hide (B4.out.trans (b5.mono B4.out.size))
      have H5 := hide (show Rd .u8 w5 hd (headO nn E.length) from Rd.own o5)
      have E5 := hide (E4.out.below b5)
      clear o5 b5 B4 O4 P4 E4
      obtain ⟨a5, c5, rfl⟩ : ∃ a c, hd = .slice a 12 c := by obtain ⟨a, c, e, _⟩ := H5.out; rw [headO_len] at e; exact ⟨a, c, e⟩
      go_wp2_with (go_at_call 31; fail)
      refine (recSum_any nn E _ _ _ H5.out E5.out HBD.out (by omega)).mono ?_
      rintro e w6 ⟨rfl, b6⟩
      have B6 := hide (B5.out.trans (b6.mono B5.out.size))
      have H6 := hide (H5.out.below b6)
      have E6 := hide (E5.out.below b6)
      clear b6 B5 H5 E5
      have hsl := sumO_lt nn E HBD.out
      go_wp2_with (go_at_call 30; fail)
      refine (num32_any (sumO nn E) _ hsl).mono ?_
      rintro e w7 ⟨g7, c7, rfl, o7, b7⟩
      have B7 := hide (B6.out.trans (b7.mono B6.out.size))
      have O7 := hide (Rd.own o7)
      have H7 := hide (H6.out.below b7)
      have E7 := hide (E6.out.below b7)
      clear o7 b7 B6 H6 E6
      go_wp2_with (go_at_call 28; fail)
      refine (tog1_3 _ _ _ (headO nn E.length) (le 4 (sumO nn E)) E _ H7.out O7.out E7.out (by have := recO_len nn E; unfold recO at this; omega)).mono ?_
      rintro e w8 ⟨v8, rfl, o8, b8⟩
      have B8 := hide (B7.out.trans (b8.mono B7.out.size))
      have O8 := hide (own_mono o8 B7.out.size)
      clear o8 b8 B7 O7 H7 E7
      go_wp2
      go_ret2
      rw [HC.out.1, HC.out.2]
      exact ⟨_, rfl, O8.out, B8.out⟩

end Go.Proofs.YtohmjfagbhnieaaGreatDoor

namespace Go.Proofs.YtohmjfagbhnieaaGreatDoor
set_option linter.unusedVariables false
set_option linter.unusedSimpArgs false
open Go.RowKit

theorem own_asideO {w : World} {base : Nat} {e : TypeId} {v : Value} {n : Nat} {xs : List Value} (hr : w.ownsRow base e 1 v n xs) (a : Addr) (u : Value) (hb : a.block < base) : (w.setCell a u).ownsRow base e 1 v n xs :=
  hr.kept (w' := w.setCell a u) (row := some a.block) ⟨rfl, rfl, rfl, by simp, fun k hk hne => Below.heap_setCell w a u k (fun e => hne (by rw [e]))⟩ (by
    cases hv : v.ownBlock with
    | none => exact .inl rfl
    | some k => exact .inr (fun e => by have := (hr.lt k hv).1; injection e with e; omega))
/-- What is small enough: the law looks at no other. -/
def smallO (p q : ByteArray) (n : Nat) : Prop := p.size + q.size + n ≤ 1048576
end Go.Proofs.YtohmjfagbhnieaaGreatDoor
