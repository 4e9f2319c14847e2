/- The model's DecodeOp. -/
import Derived.Test.YtohmjfagbhnieaaGreatDoorZl36
import Derived.Test.YtohmjfagbhnieaaGreatDoorZl37
namespace Go.Proofs.YtohmjfagbhnieaaGreatDoor
set_option linter.unusedVariables false
set_option linter.unusedSimpArgs false
open Go.RowKit

theorem own_sliceL {w : World} {base : Nat} {e : TypeId} {v : Value} {n : Nat} {xs : List Value} (h : w.ownsRow base e 1 v n xs) (hn : 0 < n) : ∃ g cap, v = .slice (some ⟨g, 0, none⟩) n cap ∧ base ≤ g := by
  rcases h.2 with ⟨rfl, h0⟩ | ⟨g, cap, cur, rfl, hb, _⟩
  · omega
  · exact ⟨g, cap, rfl, hb⟩
theorem wpList_append_rdL {P : Program} (w : World) {ops : Array Oper} {rest : List Oper} {o : Oper} {a : Act} {Q : Exit → Act → World → Prop}
    (hg : o.guard = none) (s x : Operand) (t : TypeId) (hop : o.op = Op.call { callee := Callee.builtin Builtin.append, args := #[s, x], argTypes := #[t, t] })
    (base : Nat) (e : TypeId) (i : TypeInfo) (h1 : P.underlying t = some (.slice e)) (h2 : P.info? e = some i) (h3 : i.zero = some (.int .u8 0)) (h4 : i.size = 1) (h5 : i.bytes = 1)
    (g c n : Nat) (xs : List Value) (hs : a.eval s = .slice (some ⟨g, 0, none⟩) n c) (hown : w.ownsRow base e 1 (.slice (some ⟨g, 0, none⟩) n c) n xs)
    (v : Value) (zs : List Int) (hx : a.eval x = v) (hr : Rd .u8 w v zs) (hb : n + zs.length ≤ 4000000) (hbase : base ≤ w.heap.size)
    (hK : ∀ g' c' w', w'.ownsRow base e 1 (.slice (some ⟨g', 0, none⟩) (n + zs.length) c') (n + zs.length) (xs ++ zs.map (Value.int .u8)) → w.grownBy w' (some g) → wpList P ops Q rest (a.put o.dst (.slice (some ⟨g', 0, none⟩) (n + zs.length) c')) w') :
    wpList P ops Q (o :: rest) a w := by
  by_cases hz : 0 < zs.length
  · obtain ⟨bd, off, cp, rfl, hbw, _, _, hcell⟩ := hr.partsC hz
    refine append_fresh w hg s x t hop base e i (.int .u8 0) 1 1 h1 h2 h3 h4 h5 rfl (by decide) _ n xs hs hown ⟨bd, off, none⟩ zs.length cp (zs.map (Value.int .u8)) hx (by simp) (fun j u hj => ?_) (ints_oneCell _ _) hz (by unfold maxLen; omega) (by omega) hbase ?_
    · have hjl : j < zs.length := by
        rcases Nat.lt_or_ge j zs.length with h | h
        · exact h
        · rw [List.getElem?_eq_none (by simpa using h)] at hj; cases hj
      rw [Addr.add_mid, hcell j hjl]
      rw [List.getElem?_map, List.getElem?_eq_getElem hjl] at hj
      simp at hj
      rw [← hj]
      simp [List.getD, hjl]
    · intro v' w' r1 r2 _
      obtain ⟨g', c', rfl, _⟩ := own_sliceL r1 (by omega)
      exact hK g' c' w' r1 r2
  · have hz0 : zs = [] := List.eq_nil_of_length_eq_zero (by omega)
    subst hz0
    obtain ⟨a3, c3, rfl⟩ : ∃ a3 c3, v = .slice a3 0 c3 := by obtain ⟨a3, c3, e3, _⟩ := hr; exact ⟨a3, c3, e3⟩
    refine wpList_append_emptyL hg s x t hop base e i 1 h1 h2 _ n xs hs hown a3 c3 hx ?_
    exact hK g c w (by simpa using hown) (World.grownBy.refl _ _)

theorem wp_buildV {P : Program} {o : Oper} {a : Act} {w : World} {K : Act → World → Prop} {Q : Exit → Act → World → Prop} (t : TypeId) (parts : Array (Nat × Operand)) (ho : o.op = .build t parts) (cells : Array Value)
    (hf : P.built t (parts.map fun (i, x) => (i, a.eval x)).toList = some cells) (h : K (a.put o.dst (.agg cells)) w) : o.wp P a w K Q := by
  unfold Oper.wp execOp
  simp only [ho, Sem.run_bind, run_build w t _ _ hf, Result.andThen_ok, Sem.run_pure]
  exact h

theorem listed_of {o : Oper} {listed : Array Bool} (hall : ∀ e ∈ o.after, Region.binds .any e = true → listed.getD e.on false = true) (j : Nat) (ha : (o.after.toList.any fun e => e.on == j && Region.binds .any e) = true) : listed.getD j false = true := by
  rw [List.any_eq_true] at ha
  obtain ⟨e, he, h2⟩ := ha
  rw [Bool.and_eq_true] at h2
  have h3 : e.on = j := by simpa using h2.1
  rw [← h3]
  exact hall e (Array.mem_toList_iff.1 he) h2.2

theorem bytes_cutL {zs : List Int} (h : ∀ z ∈ zs, 0 ≤ z ∧ z < 256) (lo n : Nat) : ∀ z ∈ (zs.drop lo).take n, 0 ≤ z ∧ z < 256 := fun z hz => h z (List.mem_of_mem_drop (List.mem_of_mem_take hz))
theorem gval2 {ts : List Int} (h : ∀ z ∈ ts, 0 ≤ z ∧ z < 256) (hl : ts.length ≤ 4) : gval ts = unle ts ∧ unle ts < 4294967296 := by
  have h1 := unle_lt ts h
  have h2 : 256 ^ ts.length ≤ 256 ^ 4 := Nat.pow_le_pow_right (by decide) hl
  have h3 : unle ts < 4294967296 := by omega
  exact ⟨gval_small ts (by omega), h3⟩
/-- What the model cuts out. -/
def mK (zs : List Int) : Int := zs.getD 0 0
def mX5 (zs : List Int) : Nat := gval ((zs.drop 21).take 2)
def mP (zs : List Int) : List Int := (zs.drop 23).take (mX5 zs)
def mR1 (zs : List Int) : List Int := (zs.drop 23).drop (mX5 zs)
def mS1 (zs : List Int) : List Int := (mR1 zs).take 2
def mR2 (zs : List Int) : List Int := (mR1 zs).drop 2
def mX6 (zs : List Int) : Nat := gval (mS1 zs)
def mQ (zs : List Int) : List Int := (mR2 zs).take (mX6 zs)
def mR3 (zs : List Int) : List Int := (mR2 zs).drop (mX6 zs)
def mS2 (zs : List Int) : List Int := (mR3 zs).take 4
def mD (zs : List Int) : List Int := (mR3 zs).drop 4
theorem m_len (zs : List Int) : (mP zs).length ≤ zs.length ∧ (mR1 zs).length ≤ zs.length ∧ (mS1 zs).length ≤ 2 ∧ (mR2 zs).length ≤ zs.length ∧ (mQ zs).length ≤ zs.length ∧ (mR3 zs).length ≤ zs.length ∧ (mD zs).length ≤ zs.length := by
  unfold mD mR3 mQ mR2 mS1 mR1 mP
  simp only [List.length_take, List.length_drop]
  omega
theorem m_bd {zs : List Int} (h : ∀ z ∈ zs, 0 ≤ z ∧ z < 256) : (∀ z ∈ mS1 zs, 0 ≤ z ∧ z < 256) ∧ (∀ z ∈ mD zs, 0 ≤ z ∧ z < 256) := by
  unfold mS1 mD mR3 mR2 mR1
  exact ⟨fun z hz => h z (List.mem_of_mem_drop (List.mem_of_mem_drop (List.mem_of_mem_take hz))), fun z hz => h z (List.mem_of_mem_drop (List.mem_of_mem_drop (List.mem_of_mem_drop (List.mem_of_mem_drop (List.mem_of_mem_drop hz)))))⟩
theorem m_back {zs : List Int} {K U G : Int} {A B : Int} {p q : ByteArray} {es : List Int} (hb : ∀ z ∈ zs, 0 ≤ z ∧ z < 256) (hr : rightO K U G p q es.length = true) (hA : In64 A) (hB : In64 B) (hz : zs = bytesO K.toNat A B U.toNat G.toNat p q es) :
    29 ≤ zs.length ∧ (mK zs) = K ∧ (wrap64 ((unle ((zs.drop 1).take 8) : Nat) : Int)) = A ∧ (wrap64 ((unle ((zs.drop 9).take 8) : Nat) : Int)) = B ∧ ((gval ((zs.drop 17).take 2) : Nat) : Int) = U ∧ ((gval ((zs.drop 19).take 2) : Nat) : Int) = G ∧ strOfNums (mP zs) = p ∧ strOfNums (mQ zs) = q ∧ (mS2 zs).length = 4 ∧ mD zs = es := by
  obtain ⟨b0, b1, b2, b3, b4, b5⟩ := rightO_bd hr
  have hl : zs.length = 29 + p.size + q.size + es.length := by rw [hz]; exact bytesO_len _ _ _ _ _ _ _ _
  have gv : ∀ lo, gval ((zs.drop lo).take 2) = unle ((zs.drop lo).take 2) := fun lo => (gval2 (bytes_cutL hb lo 2) (by rw [List.length_take]; omega)).1
  have k5 : mX5 zs = p.size := by
    unfold mX5
    rw [gv, hz, bo5, unleL, Nat.mod_eq_of_lt (by omega)]
  have e1 : mR1 zs = zs.drop (23 + p.size) := by unfold mR1; rw [k5, List.drop_drop]
  have e2 : mS1 zs = le 2 q.size := by unfold mS1; rw [e1, hz]; exact bo7 _ _ _ _ _ _ _ _
  have e3 : mR2 zs = zs.drop (25 + p.size) := by unfold mR2; rw [e1, List.drop_drop]; congr 1; omega
  have k6 : mX6 zs = q.size := by
    unfold mX6
    rw [(gval2 (m_bd hb).1 (by have := (m_len zs).2.2.1; omega)).1, e2, unleL, Nat.mod_eq_of_lt (by omega)]
  have e4 : mQ zs = strI q := by unfold mQ; rw [k6, e3, hz]; exact bo8 _ _ _ _ _ _ _ _
  have e5 : mR3 zs = zs.drop (25 + p.size + q.size) := by unfold mR3; rw [k6, e3, List.drop_drop]
  have e6 : mS2 zs = le 4 es.length := by unfold mS2; rw [e5, hz]; exact bo9 _ _ _ _ _ _ _ _
  have e7 : mD zs = es := by
    have h1 : mD zs = zs.drop (29 + p.size + q.size) := by unfold mD; rw [e5, List.drop_drop]; congr 1; omega
    have h2 := bo10 K.toNat A B U.toNat G.toNat p q es
    rw [← hz, List.take_of_length_le (by rw [List.length_drop]; omega)] at h2
    rw [h1, h2]
  have ep : mP zs = strI p := by unfold mP; rw [k5, hz]; exact bo6 _ _ _ _ _ _ _ _
  have g0 : ((zs.drop 0).take 1) = le 1 K.toNat := by rw [hz]; exact bo0 _ _ _ _ _ _ _ _
  have k0 : mK zs = ((K.toNat % 256 : Nat) : Int) := by
    unfold mK
    have h1 := congrArg (fun l => l.getD 0 0) g0
    have h2 : ((zs.drop 0).take 1).getD 0 0 = zs.getD 0 0 := by simp [List.getD_eq_getElem?_getD, List.getElem?_take]
    rw [← h2]
    exact h1
  refine ⟨by omega, by omega, ?_, ?_, ?_, ?_, by rw [ep]; exact strOf_strI p, by rw [e4]; exact strOf_strI q, by rw [e6, le_len], e7⟩
  · rw [hz, bo1, unleL, Nat.mod_eq_of_lt (by have := s64_lt A; omega)]; exact s64_back A hA
  · rw [hz, bo2, unleL, Nat.mod_eq_of_lt (by have := s64_lt B; omega)]; exact s64_back B hB
  · rw [gv, hz, bo3, unleL, Nat.mod_eq_of_lt (by omega)]; omega
  · rw [gv, hz, bo4, unleL, Nat.mod_eq_of_lt (by omega)]; omega
theorem strOf_injL {xs ys : List Int} (hx : ∀ z ∈ xs, 0 ≤ z ∧ z < 256) (hy : ∀ z ∈ ys, 0 ≤ z ∧ z < 256) (h : (strOfNums xs).toList = (strOfNums ys).toList) : xs = ys := by
  have h1 : strOfNums xs = strOfNums ys := by
    rw [ByteArray.toList_eq, ByteArray.toList_eq] at h
    have h2 : (strOfNums xs).data = (strOfNums ys).data := Array.toList_inj.mp h
    cases hx' : strOfNums xs
    cases hy' : strOfNums ys
    rw [hx', hy'] at h2
    simp at h2
    rw [h2]
  rw [← strI_strOf xs hx, ← strI_strOf ys hy, h1]
/-- What the drawn region holds: the operation's cell, once it is made and once it is filled. -/
def SO (W : World) (X : Array Value) (listed : Array Bool) (a : Act) (w : World) : Prop :=
  Below W.heap.size W w ∧ listed.size = 19 ∧ a.tmps.size = 93 ∧ (listed.getD 18 false = true → listed.getD 17 false = true) ∧ (listed.getD 17 false = true → ∃ g, a.tmps.getD 4 undef = .pointer (some ⟨g, 0, none⟩) ∧ W.heap.size ≤ g ∧ Blk w g (if listed.getD 18 false = true then X else noOp) 30)
theorem SO.keep {W : World} {X : Array Value} {listed : Array Bool} {a : Act} {w w' : World} (h : SO W X listed a w) (hb : Below w.heap.size w w') (i d : Nat) (v : Value) (hi : i < 17) (hd : d ≠ 4) (hd2 : d < 93) : SO W X (listed.setIfInBounds i true) (a.put (some d) v) w' := by
  obtain ⟨h1, h2, h3, h4, h5⟩ := h
  have e17 : (listed.setIfInBounds i true).getD 17 false = listed.getD 17 false := by rw [listed_set (by omega), if_neg (by omega)]
  have e18 : (listed.setIfInBounds i true).getD 18 false = listed.getD 18 false := by rw [listed_set (by omega), if_neg (by omega)]
  refine ⟨h1.trans (hb.mono h1.size), by simpa using h2, by simpa [Act.put] using h3, by rw [e17, e18]; exact h4, fun h => ?_⟩
  rw [e17] at h
  obtain ⟨g, k1, k2, k3⟩ := h5 h
  refine ⟨g, ?_, k2, ?_⟩
  · rw [getD_put (by omega), if_neg (by omega)]
    exact k1
  · rw [e18]
    exact k3.below hb k3.lt
theorem SO.made {W : World} {X : Array Value} {listed : Array Bool} {a : Act} {w : World} (h : SO W X listed a w) (hn : listed.getD 17 true = false) : SO W X (listed.setIfInBounds 17 true) (a.put (some 4) (.pointer (some ⟨w.heap.size, 0, none⟩))) (w.alloc (.cells noOp 30)) := by
  obtain ⟨h1, h2, h3, h4, h5⟩ := h
  have h17 : listed.getD 17 false = false := by
    rw [Array.getD_eq_getD_getElem?, Array.getElem?_eq_getElem (by omega)] at hn ⊢
    exact hn
  have h18 : listed.getD 18 false = false := by
    cases e : listed.getD 18 false with
    | false => rfl
    | true => have := h4 e; rw [h17] at this; cases this
  have e18 : (listed.setIfInBounds 17 true).getD 18 false = false := by rw [listed_set (by omega), if_neg (by omega)]; exact h18
  refine ⟨h1.alloc h1.size _, by simpa using h2, by simpa [Act.put] using h3, by rw [e18]; exact (fun h => by cases h), fun _ => ⟨w.heap.size, ?_, h1.size, ?_⟩⟩
  · rw [getD_put (by omega), if_pos rfl]
  · rw [e18]
    exact Blk.new w noOp 30
theorem SO.put {W : World} {X : Array Value} {listed : Array Bool} {a : Act} {w : World} (h : SO W X listed a w) (g : Nat) (hg : a.tmps.getD 4 undef = .pointer (some ⟨g, 0, none⟩)) (hW : W.heap.size ≤ g) (C : Array Value) (hB : Blk w g C 30) (v : Value) (h17 : listed.getD 17 false = true) : SO W X (listed.setIfInBounds 18 true) (a.put none v) (w.setRow g X) := by
  obtain ⟨h1, h2, h3, h4, h5⟩ := h
  have e17 : (listed.setIfInBounds 18 true).getD 17 false = listed.getD 17 false := by rw [listed_set (by omega), if_neg (by omega)]
  have e18 : (listed.setIfInBounds 18 true).getD 18 false = true := by rw [listed_set (by omega), if_pos rfl]
  refine ⟨below_setRow h1 hW _, by simpa using h2, h3, by rw [e17]; exact fun _ => h17, fun _ => ⟨g, hg, hW, ?_⟩⟩
  rw [e18]
  exact hB.row _
theorem tmps93 (a : Array Value) (h : a.size = 93) : a = #[a.getD 0 undef, a.getD 1 undef, a.getD 2 undef, a.getD 3 undef, a.getD 4 undef, a.getD 5 undef, a.getD 6 undef, a.getD 7 undef, a.getD 8 undef, a.getD 9 undef, a.getD 10 undef, a.getD 11 undef, a.getD 12 undef, a.getD 13 undef, a.getD 14 undef, a.getD 15 undef, a.getD 16 undef, a.getD 17 undef, a.getD 18 undef, a.getD 19 undef, a.getD 20 undef, a.getD 21 undef, a.getD 22 undef, a.getD 23 undef, a.getD 24 undef, a.getD 25 undef, a.getD 26 undef, a.getD 27 undef, a.getD 28 undef, a.getD 29 undef, a.getD 30 undef, a.getD 31 undef, a.getD 32 undef, a.getD 33 undef, a.getD 34 undef, a.getD 35 undef, a.getD 36 undef, a.getD 37 undef, a.getD 38 undef, a.getD 39 undef, a.getD 40 undef, a.getD 41 undef, a.getD 42 undef, a.getD 43 undef, a.getD 44 undef, a.getD 45 undef, a.getD 46 undef, a.getD 47 undef, a.getD 48 undef, a.getD 49 undef, a.getD 50 undef, a.getD 51 undef, a.getD 52 undef, a.getD 53 undef, a.getD 54 undef, a.getD 55 undef, a.getD 56 undef, a.getD 57 undef, a.getD 58 undef, a.getD 59 undef, a.getD 60 undef, a.getD 61 undef, a.getD 62 undef, a.getD 63 undef, a.getD 64 undef, a.getD 65 undef, a.getD 66 undef, a.getD 67 undef, a.getD 68 undef, a.getD 69 undef, a.getD 70 undef, a.getD 71 undef, a.getD 72 undef, a.getD 73 undef, a.getD 74 undef, a.getD 75 undef, a.getD 76 undef, a.getD 77 undef, a.getD 78 undef, a.getD 79 undef, a.getD 80 undef, a.getD 81 undef, a.getD 82 undef, a.getD 83 undef, a.getD 84 undef, a.getD 85 undef, a.getD 86 undef, a.getD 87 undef, a.getD 88 undef, a.getD 89 undef, a.getD 90 undef, a.getD 91 undef, a.getD 92 undef] := by
  have e : a = ((List.range 93).map fun i => a.getD i undef).toArray := Array.ext (by simp [h]) (fun i h1 h2 => by simp [Array.getD, h1])
  exact e
def VDo (bd off cap : Nat) (zs : List Int) (X : Array Value) (i : Nat) (v : Value) (w : World) : Prop := match i with
  | 0 => v = .slice (some ⟨bd, off, none⟩) zs.length cap
  | 1 => v = .pointer (some ⟨bd, off, none⟩)
  | 2 => v = .int .u8 (mK zs)
  | 3 => v = .int .i64 (mK zs)
  | 4 => v = .slice (some ⟨bd, off, none⟩) zs.length cap
  | 5 => v = .slice (some ⟨bd, off + 1, none⟩) 8 (cap - 1)
  | 6 => v = .int .i64 (wrap64 ((unle ((zs.drop 1).take 8) : Nat) : Int))
  | 7 => v = .slice (some ⟨bd, off, none⟩) zs.length cap
  | 8 => v = .slice (some ⟨bd, off + 9, none⟩) 8 (cap - 9)
  | 9 => v = .int .i64 (wrap64 ((unle ((zs.drop 9).take 8) : Nat) : Int))
  | 10 => v = .slice (some ⟨bd, off, none⟩) zs.length cap
  | 11 => v = .slice (some ⟨bd, off + 17, none⟩) 2 (cap - 17)
  | 12 => v = .int .i64 ((gval ((zs.drop 17).take 2) : Nat) : Int)
  | 13 => v = .slice (some ⟨bd, off, none⟩) zs.length cap
  | 14 => v = .slice (some ⟨bd, off + 19, none⟩) 2 (cap - 19)
  | 15 => v = .int .i64 ((gval ((zs.drop 19).take 2) : Nat) : Int)
  | 16 => v = .agg X
  | _ => True
theorem wrapI8 (x : Int) (h0 : 0 ≤ x) (h1 : x < 256) : IntKind.i64.wrap x = x := by simp [IntKind.wrap, IntKind.signed, IntKind.bits]; omega
theorem build_op (K A B U G : Int) : Tryz.prog.built 30 [(0, .int .i64 K), (1, .int .i64 A), (2, .int .i64 B), (3, .int .i64 U), (4, .int .i64 G)] = some (opC K A B U G ⟨#[]⟩ ⟨#[]⟩ (.slice none 0 0)) := by kernel_rfl
theorem isDec_no {zs : List Int} (h : ∀ (K' A' B' U' G' : Int) (p' q' : ByteArray) (ds' : List Int), rightO K' U' G' p' q' ds'.length = true → In64 A' → In64 B' → zs ≠ bytesO K'.toNat A' B' U'.toNat G'.toNat p' q' ds') : IsDec zs 0 0 0 0 0 ⟨#[]⟩ ⟨#[]⟩ [] 21 := .inr ⟨rfl, ⟨rfl, rfl, rfl, rfl, rfl, rfl, rfl, rfl⟩, h⟩
end Go.Proofs.YtohmjfagbhnieaaGreatDoor
