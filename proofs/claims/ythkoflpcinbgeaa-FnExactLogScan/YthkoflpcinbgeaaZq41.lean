/- The model's DecodeOp. -/
import Derived.Test.YthkoflpcinbgeaaZq39
import Derived.Test.YthkoflpcinbgeaaZq40
namespace Go.Proofs.Ythkoflpcinbgeaa
set_option linter.unusedVariables false
set_option linter.unusedSimpArgs false
open Go.RowKit

theorem own_sliceL {w : World} {base : Nat} {e : TypeId} {v : Value} {n : Nat} {xs : List Value} (h : w.ownsRow base e 1 v n xs) (hn : 0 < n) : ∃ g cap, v = .slice (some ⟨g, 0, none⟩) n cap ∧ base ≤ g := by
  rcases h.2 with ⟨rfl, h0⟩ | ⟨g, cap, cur, rfl, hb, _⟩
  · omega
  · exact ⟨g, cap, rfl, hb⟩
theorem wpList_append_rdL {P : Program} (w : World) {ops : Array Oper} {rest : List Oper} {o : Oper} {a : Act} {Q : Exit → Act → World → Prop}
    (hg : o.guard = none) (s x : Operand) (t : TypeId) (hop : o.op = Op.call { callee := Callee.builtin Builtin.append, args := #[s, x], argTypes := #[t, t] })
    (base : Nat) (e : TypeId) (i : TypeInfo) (h1 : P.underlying t = some (.slice e)) (h2 : P.info? e = some i) (h3 : i.zero = some (.int .u8 0)) (h4 : i.size = 1) (h5 : i.bytes = 1)
    (g c n : Nat) (xs : List Value) (hs : a.eval s = .slice (some ⟨g, 0, none⟩) n c) (hown : w.ownsRow base e 1 (.slice (some ⟨g, 0, none⟩) n c) n xs)
    (v : Value) (zs : List Int) (hx : a.eval x = v) (hr : Rd .u8 w v zs) (hb : n + zs.length ≤ 4000000) (hbase : base ≤ w.heap.size)
    (hK : ∀ g' c' w', w'.ownsRow base e 1 (.slice (some ⟨g', 0, none⟩) (n + zs.length) c') (n + zs.length) (xs ++ zs.map (Value.int .u8)) → w.grownBy w' (some g) → wpList P ops Q rest (a.put o.dst (.slice (some ⟨g', 0, none⟩) (n + zs.length) c')) w') :
    wpList P ops Q (o :: rest) a w := by
  by_cases hz : 0 < zs.length
  · obtain ⟨bd, off, cp, rfl, hbw, _, _, hcell⟩ := hr.partsC hz
    refine append_fresh w hg s x t hop base e i (.int .u8 0) 1 1 h1 h2 h3 h4 h5 rfl (by decide) _ n xs hs hown ⟨bd, off, none⟩ zs.length cp (zs.map (Value.int .u8)) hx (by simp) (fun j u hj => ?_) (ints_oneCell _ _) hz (by unfold maxLen; omega) (by omega) hbase ?_
    · have hjl : j < zs.length := by
        rcases Nat.lt_or_ge j zs.length with h | h
        · exact h
        · rw [List.getElem?_eq_none (by simpa using h)] at hj; cases hj
      rw [Addr.add_mid, hcell j hjl]
      rw [List.getElem?_map, List.getElem?_eq_getElem hjl] at hj
      simp at hj
      rw [← hj]
      simp [List.getD, hjl]
    · intro v' w' r1 r2 _
      obtain ⟨g', c', rfl, _⟩ := own_sliceL r1 (by omega)
      exact hK g' c' w' r1 r2
  · have hz0 : zs = [] := List.eq_nil_of_length_eq_zero (by omega)
    subst hz0
    obtain ⟨a3, c3, rfl⟩ : ∃ a3 c3, v = .slice a3 0 c3 := by obtain ⟨a3, c3, e3, _⟩ := hr; exact ⟨a3, c3, e3⟩
    refine wpList_append_emptyL hg s x t hop base e i 1 h1 h2 _ n xs hs hown a3 c3 hx ?_
    exact hK g c w (by simpa using hown) (World.grownBy.refl _ _)

theorem wp_buildV {P : Program} {o : Oper} {a : Act} {w : World} {K : Act → World → Prop} {Q : Exit → Act → World → Prop} (t : TypeId) (parts : Array (Nat × Operand)) (ho : o.op = .build t parts) (cells : Array Value)
    (hf : P.built t (parts.map fun (i, x) => (i, a.eval x)).toList = some cells) (h : K (a.put o.dst (.agg cells)) w) : o.wp P a w K Q := by
  unfold Oper.wp execOp
  simp only [ho, Sem.run_bind, run_build w t _ _ hf, Result.andThen_ok, Sem.run_pure]
  exact h

theorem listed_of {o : Oper} {listed : Array Bool} (hall : ∀ e ∈ o.after, Region.binds .any e = true → listed.getD e.on false = true) (j : Nat) (ha : (o.after.toList.any fun e => e.on == j && Region.binds .any e) = true) : listed.getD j false = true := by
  rw [List.any_eq_true] at ha
  obtain ⟨e, he, h2⟩ := ha
  rw [Bool.and_eq_true] at h2
  have h3 : e.on = j := by simpa using h2.1
  rw [← h3]
  exact hall e (Array.mem_toList_iff.1 he) h2.2

theorem bytes_cutL {zs : List Int} (h : ∀ z ∈ zs, 0 ≤ z ∧ z < 256) (lo n : Nat) : ∀ z ∈ (zs.drop lo).take n, 0 ≤ z ∧ z < 256 := fun z hz => h z (List.mem_of_mem_drop (List.mem_of_mem_take hz))
theorem gval2 {ts : List Int} (h : ∀ z ∈ ts, 0 ≤ z ∧ z < 256) (hl : ts.length ≤ 4) : gval ts = unle ts ∧ unle ts < 4294967296 := by
  have h1 := unle_lt ts h
  have h2 : 256 ^ ts.length ≤ 256 ^ 4 := Nat.pow_le_pow_right (by decide) hl
  have h3 : unle ts < 4294967296 := by omega
  exact ⟨gval_small ts (by omega), h3⟩
/-- What the model cuts out. -/
def mK (zs : List Int) : Int := zs.getD 0 0
def mX5 (zs : List Int) : Nat := gval ((zs.drop 21).take 2)
def mP (zs : List Int) : List Int := (zs.drop 23).take (mX5 zs)
def mR1 (zs : List Int) : List Int := (zs.drop 23).drop (mX5 zs)
def mS1 (zs : List Int) : List Int := (mR1 zs).take 2
def mR2 (zs : List Int) : List Int := (mR1 zs).drop 2
def mX6 (zs : List Int) : Nat := gval (mS1 zs)
def mQ (zs : List Int) : List Int := (mR2 zs).take (mX6 zs)
def mR3 (zs : List Int) : List Int := (mR2 zs).drop (mX6 zs)
def mS2 (zs : List Int) : List Int := (mR3 zs).take 4
def mD (zs : List Int) : List Int := (mR3 zs).drop 4
theorem m_len (zs : List Int) : (mP zs).length ≤ zs.length ∧ (mR1 zs).length ≤ zs.length ∧ (mS1 zs).length ≤ 2 ∧ (mR2 zs).length ≤ zs.length ∧ (mQ zs).length ≤ zs.length ∧ (mR3 zs).length ≤ zs.length ∧ (mD zs).length ≤ zs.length := by
  unfold mD mR3 mQ mR2 mS1 mR1 mP
  simp only [List.length_take, List.length_drop]
  omega
theorem m_bd {zs : List Int} (h : ∀ z ∈ zs, 0 ≤ z ∧ z < 256) : (∀ z ∈ mS1 zs, 0 ≤ z ∧ z < 256) ∧ (∀ z ∈ mD zs, 0 ≤ z ∧ z < 256) := by
  unfold mS1 mD mR3 mR2 mR1
  exact ⟨fun z hz => h z (List.mem_of_mem_drop (List.mem_of_mem_drop (List.mem_of_mem_take hz))), fun z hz => h z (List.mem_of_mem_drop (List.mem_of_mem_drop (List.mem_of_mem_drop (List.mem_of_mem_drop (List.mem_of_mem_drop hz)))))⟩
theorem m_back {zs : List Int} {K U G : Int} {A B : Int} {p q : ByteArray} {es : List Int} (hb : ∀ z ∈ zs, 0 ≤ z ∧ z < 256) (hr : rightO K U G p q es.length = true) (hA : In64 A) (hB : In64 B) (hz : zs = bytesO K.toNat A B U.toNat G.toNat p q es) :
    29 ≤ zs.length ∧ (mK zs) = K ∧ (wrap64 ((unle ((zs.drop 1).take 8) : Nat) : Int)) = A ∧ (wrap64 ((unle ((zs.drop 9).take 8) : Nat) : Int)) = B ∧ ((gval ((zs.drop 17).take 2) : Nat) : Int) = U ∧ ((gval ((zs.drop 19).take 2) : Nat) : Int) = G ∧ strOfNums (mP zs) = p ∧ strOfNums (mQ zs) = q ∧ (mS2 zs).length = 4 ∧ mD zs = es := by
  obtain ⟨b0, b1, b2, b3, b4, b5⟩ := rightO_bd hr
  have hl : zs.length = 29 + p.size + q.size + es.length := by rw [hz]; exact bytesO_len _ _ _ _ _ _ _ _
  have gv : ∀ lo, gval ((zs.drop lo).take 2) = unle ((zs.drop lo).take 2) := fun lo => (gval2 (bytes_cutL hb lo 2) (by rw [List.length_take]; omega)).1
  have k5 : mX5 zs = p.size := by
    unfold mX5
    rw [gv, hz, bo5, unleL, Nat.mod_eq_of_lt (by omega)]
  have e1 : mR1 zs = zs.drop (23 + p.size) := by unfold mR1; rw [k5, List.drop_drop]
  have e2 : mS1 zs = le 2 q.size := by unfold mS1; rw [e1, hz]; exact bo7 _ _ _ _ _ _ _ _
  have e3 : mR2 zs = zs.drop (25 + p.size) := by unfold mR2; rw [e1, List.drop_drop]; congr 1; omega
  have k6 : mX6 zs = q.size := by
    unfold mX6
    rw [(gval2 (m_bd hb).1 (by have := (m_len zs).2.2.1; omega)).1, e2, unleL, Nat.mod_eq_of_lt (by omega)]
  have e4 : mQ zs = strI q := by unfold mQ; rw [k6, e3, hz]; exact bo8 _ _ _ _ _ _ _ _
  have e5 : mR3 zs = zs.drop (25 + p.size + q.size) := by unfold mR3; rw [k6, e3, List.drop_drop]
  have e6 : mS2 zs = le 4 es.length := by unfold mS2; rw [e5, hz]; exact bo9 _ _ _ _ _ _ _ _
  have e7 : mD zs = es := by
    have h1 : mD zs = zs.drop (29 + p.size + q.size) := by unfold mD; rw [e5, List.drop_drop]; congr 1; omega
    have h2 := bo10 K.toNat A B U.toNat G.toNat p q es
    rw [← hz, List.take_of_length_le (by rw [List.length_drop]; omega)] at h2
    rw [h1, h2]
  have ep : mP zs = strI p := by unfold mP; rw [k5, hz]; exact bo6 _ _ _ _ _ _ _ _
  have g0 : ((zs.drop 0).take 1) = le 1 K.toNat := by rw [hz]; exact bo0 _ _ _ _ _ _ _ _
  have k0 : mK zs = ((K.toNat % 256 : Nat) : Int) := by
    unfold mK
    have h1 := congrArg (fun l => l.getD 0 0) g0
    have h2 : ((zs.drop 0).take 1).getD 0 0 = zs.getD 0 0 := by simp [List.getD_eq_getElem?_getD, List.getElem?_take]
    rw [← h2]
    exact h1
  refine ⟨by omega, by omega, ?_, ?_, ?_, ?_, by rw [ep]; exact strOf_strI p, by rw [e4]; exact strOf_strI q, by rw [e6, le_len], e7⟩
  · rw [hz, bo1, unleL, Nat.mod_eq_of_lt (by have := s64_lt A; omega)]; exact s64_back A hA
  · rw [hz, bo2, unleL, Nat.mod_eq_of_lt (by have := s64_lt B; omega)]; exact s64_back B hB
  · rw [gv, hz, bo3, unleL, Nat.mod_eq_of_lt (by omega)]; omega
  · rw [gv, hz, bo4, unleL, Nat.mod_eq_of_lt (by omega)]; omega
theorem strOf_injL {xs ys : List Int} (hx : ∀ z ∈ xs, 0 ≤ z ∧ z < 256) (hy : ∀ z ∈ ys, 0 ≤ z ∧ z < 256) (h : (strOfNums xs).toList = (strOfNums ys).toList) : xs = ys := by
  have h1 : strOfNums xs = strOfNums ys := by
    rw [ByteArray.toList_eq, ByteArray.toList_eq] at h
    have h2 : (strOfNums xs).data = (strOfNums ys).data := Array.toList_inj.mp h
    cases hx' : strOfNums xs
    cases hy' : strOfNums ys
    rw [hx', hy'] at h2
    simp at h2
    rw [h2]
  rw [← strI_strOf xs hx, ← strI_strOf ys hy, h1]
/-- What the drawn region holds: the operation's cell, once it is made and once it is filled. -/
def SO (W : World) (X : Array Value) (listed : Array Bool) (a : Act) (w : World) : Prop :=
  Below W.heap.size W w ∧ listed.size = 19 ∧ a.tmps.size = 93 ∧ (listed.getD 18 false = true → listed.getD 17 false = true) ∧ (listed.getD 17 false = true → ∃ g, a.tmps.getD 4 undef = .pointer (some ⟨g, 0, none⟩) ∧ W.heap.size ≤ g ∧ Blk w g (if listed.getD 18 false = true then X else noOp) 34)
theorem SO.keep {W : World} {X : Array Value} {listed : Array Bool} {a : Act} {w w' : World} (h : SO W X listed a w) (hb : Below w.heap.size w w') (i d : Nat) (v : Value) (hi : i < 17) (hd : d ≠ 4) (hd2 : d < 93) : SO W X (listed.setIfInBounds i true) (a.put (some d) v) w' := by
  obtain ⟨h1, h2, h3, h4, h5⟩ := h
  have e17 : (listed.setIfInBounds i true).getD 17 false = listed.getD 17 false := by rw [listed_set (by omega), if_neg (by omega)]
  have e18 : (listed.setIfInBounds i true).getD 18 false = listed.getD 18 false := by rw [listed_set (by omega), if_neg (by omega)]
  refine ⟨h1.trans (hb.mono h1.size), by simpa using h2, by simpa [Act.put] using h3, by rw [e17, e18]; exact h4, fun h => ?_⟩
  rw [e17] at h
  obtain ⟨g, k1, k2, k3⟩ := h5 h
  refine ⟨g, ?_, k2, ?_⟩
  · rw [getD_put (by omega), if_neg (by omega)]
    exact k1
  · rw [e18]
    exact k3.below hb k3.lt
theorem SO.made {W : World} {X : Array Value} {listed : Array Bool} {a : Act} {w : World} (h : SO W X listed a w) (hn : listed.getD 17 true = false) : SO W X (listed.setIfInBounds 17 true) (a.put (some 4) (.pointer (some ⟨w.heap.size, 0, none⟩))) (w.alloc (.cells noOp 34)) := by
  obtain ⟨h1, h2, h3, h4, h5⟩ := h
  have h17 : listed.getD 17 false = false := by
    rw [Array.getD_eq_getD_getElem?, Array.getElem?_eq_getElem (by omega)] at hn ⊢
    exact hn
  have h18 : listed.getD 18 false = false := by
    cases e : listed.getD 18 false with
    | false => rfl
    | true => have := h4 e; rw [h17] at this; cases this
  have e18 : (listed.setIfInBounds 17 true).getD 18 false = false := by rw [listed_set (by omega), if_neg (by omega)]; exact h18
  refine ⟨h1.alloc h1.size _, by simpa using h2, by simpa [Act.put] using h3, by rw [e18]; exact (fun h => by cases h), fun _ => ⟨w.heap.size, ?_, h1.size, ?_⟩⟩
  · rw [getD_put (by omega), if_pos rfl]
  · rw [e18]
    exact Blk.new w noOp 34
theorem SO.put {W : World} {X : Array Value} {listed : Array Bool} {a : Act} {w : World} (h : SO W X listed a w) (g : Nat) (hg : a.tmps.getD 4 undef = .pointer (some ⟨g, 0, none⟩)) (hW : W.heap.size ≤ g) (C : Array Value) (hB : Blk w g C 34) (v : Value) (h17 : listed.getD 17 false = true) : SO W X (listed.setIfInBounds 18 true) (a.put none v) (w.setRow g X) := by
  obtain ⟨h1, h2, h3, h4, h5⟩ := h
  have e17 : (listed.setIfInBounds 18 true).getD 17 false = listed.getD 17 false := by rw [listed_set (by omega), if_neg (by omega)]
  have e18 : (listed.setIfInBounds 18 true).getD 18 false = true := by rw [listed_set (by omega), if_pos rfl]
  refine ⟨below_setRow h1 hW _, by simpa using h2, h3, by rw [e17]; exact fun _ => h17, fun _ => ⟨g, hg, hW, ?_⟩⟩
  rw [e18]
  exact hB.row _
theorem tmps93 (a : Array Value) (h : a.size = 93) : a = #[a.getD 0 undef, a.getD 1 undef, a.getD 2 undef, a.getD 3 undef, a.getD 4 undef, a.getD 5 undef, a.getD 6 undef, a.getD 7 undef, a.getD 8 undef, a.getD 9 undef, a.getD 10 undef, a.getD 11 undef, a.getD 12 undef, a.getD 13 undef, a.getD 14 undef, a.getD 15 undef, a.getD 16 undef, a.getD 17 undef, a.getD 18 undef, a.getD 19 undef, a.getD 20 undef, a.getD 21 undef, a.getD 22 undef, a.getD 23 undef, a.getD 24 undef, a.getD 25 undef, a.getD 26 undef, a.getD 27 undef, a.getD 28 undef, a.getD 29 undef, a.getD 30 undef, a.getD 31 undef, a.getD 32 undef, a.getD 33 undef, a.getD 34 undef, a.getD 35 undef, a.getD 36 undef, a.getD 37 undef, a.getD 38 undef, a.getD 39 undef, a.getD 40 undef, a.getD 41 undef, a.getD 42 undef, a.getD 43 undef, a.getD 44 undef, a.getD 45 undef, a.getD 46 undef, a.getD 47 undef, a.getD 48 undef, a.getD 49 undef, a.getD 50 undef, a.getD 51 undef, a.getD 52 undef, a.getD 53 undef, a.getD 54 undef, a.getD 55 undef, a.getD 56 undef, a.getD 57 undef, a.getD 58 undef, a.getD 59 undef, a.getD 60 undef, a.getD 61 undef, a.getD 62 undef, a.getD 63 undef, a.getD 64 undef, a.getD 65 undef, a.getD 66 undef, a.getD 67 undef, a.getD 68 undef, a.getD 69 undef, a.getD 70 undef, a.getD 71 undef, a.getD 72 undef, a.getD 73 undef, a.getD 74 undef, a.getD 75 undef, a.getD 76 undef, a.getD 77 undef, a.getD 78 undef, a.getD 79 undef, a.getD 80 undef, a.getD 81 undef, a.getD 82 undef, a.getD 83 undef, a.getD 84 undef, a.getD 85 undef, a.getD 86 undef, a.getD 87 undef, a.getD 88 undef, a.getD 89 undef, a.getD 90 undef, a.getD 91 undef, a.getD 92 undef] := by
  have e : a = ((List.range 93).map fun i => a.getD i undef).toArray := Array.ext (by simp [h]) (fun i h1 h2 => by simp [Array.getD, h1])
  exact e
def VDo (bd off cap : Nat) (zs : List Int) (X : Array Value) (i : Nat) (v : Value) (w : World) : Prop := match i with
  | 0 => v = .slice (some ⟨bd, off, none⟩) zs.length cap
  | 1 => v = .pointer (some ⟨bd, off, none⟩)
  | 2 => v = .int .u8 (mK zs)
  | 3 => v = .int .i64 (mK zs)
  | 4 => v = .slice (some ⟨bd, off, none⟩) zs.length cap
  | 5 => v = .slice (some ⟨bd, off + 1, none⟩) 8 (cap - 1)
  | 6 => v = .int .i64 (wrap64 ((unle ((zs.drop 1).take 8) : Nat) : Int))
  | 7 => v = .slice (some ⟨bd, off, none⟩) zs.length cap
  | 8 => v = .slice (some ⟨bd, off + 9, none⟩) 8 (cap - 9)
  | 9 => v = .int .i64 (wrap64 ((unle ((zs.drop 9).take 8) : Nat) : Int))
  | 10 => v = .slice (some ⟨bd, off, none⟩) zs.length cap
  | 11 => v = .slice (some ⟨bd, off + 17, none⟩) 2 (cap - 17)
  | 12 => v = .int .i64 ((gval ((zs.drop 17).take 2) : Nat) : Int)
  | 13 => v = .slice (some ⟨bd, off, none⟩) zs.length cap
  | 14 => v = .slice (some ⟨bd, off + 19, none⟩) 2 (cap - 19)
  | 15 => v = .int .i64 ((gval ((zs.drop 19).take 2) : Nat) : Int)
  | 16 => v = .agg X
  | _ => True
theorem wrapI8 (x : Int) (h0 : 0 ≤ x) (h1 : x < 256) : IntKind.i64.wrap x = x := by simp [IntKind.wrap, IntKind.signed, IntKind.bits]; omega
theorem build_op (K A B U G : Int) : Try.prog.built 34 [(0, .int .i64 K), (1, .int .i64 A), (2, .int .i64 B), (3, .int .i64 U), (4, .int .i64 G)] = some (opC K A B U G ⟨#[]⟩ ⟨#[]⟩ (.slice none 0 0)) := by kernel_rfl
theorem isDec_no {zs : List Int} (h : ∀ (K' A' B' U' G' : Int) (p' q' : ByteArray) (ds' : List Int), rightO K' U' G' p' q' ds'.length = true → In64 A' → In64 B' → zs ≠ bytesO K'.toNat A' B' U'.toNat G'.toNat p' q' ds') : IsDec zs 0 0 0 0 0 ⟨#[]⟩ ⟨#[]⟩ [] 21 := .inr ⟨rfl, ⟨rfl, rfl, rfl, rfl, rfl, rfl, rfl, rfl⟩, h⟩
set_option maxRecDepth 100000 in
set_option maxHeartbeats 8000000 in
theorem specDO_any (v : Value) (zs : List Int) (w : World) (h : Rd .u8 w v zs) (hbd : ∀ z ∈ zs, 0 ≤ z ∧ z < 256) (hzl : zs.length ≤ 1048576) :
    Calls Try.prog 19 #[v] w fun e w' => ∃ (K A B U G : Int) (p q : ByteArray) (dv : Value) (ds : List Int) (code : Int), e = .returned (.tuple #[.agg (opC K A B U G p q dv), .int .i64 code]) ∧ IsDec zs K A B U G p q ds code ∧ w'.ownsRow w.heap.size 5 1 dv ds.length (ds.map (Value.int .u8)) ∧ Below w.heap.size w w' := by
  have KW := hide (show Blk (w.alloc (.cells #[.int .i64 0, .int .i64 0, .int .i64 0, .int .i64 0, .int .i64 0, .string ⟨#[]⟩, .string ⟨#[]⟩, .slice none 0 0] 34)) w.heap.size noOp 34 ∧ Below w.heap.size w (w.alloc (.cells #[.int .i64 0, .int .i64 0, .int .i64 0, .int .i64 0, .int .i64 0, .string ⟨#[]⟩, .string ⟨#[]⟩, .slice none 0 0] 34)) from ⟨Blk.new _ _ _, (Below.refl _ _).alloc (Nat.le_refl _) _⟩)
  by_cases hz : zs.length < 29
  · obtain ⟨a, cap, rfl⟩ : ∃ a cap, v = .slice a zs.length cap := by obtain ⟨a, cap, h1, _⟩ := h; exact ⟨a, cap, h1⟩
    have HF := hide (show IsDec zs 0 0 0 0 0 ⟨#[]⟩ ⟨#[]⟩ [] 21 from isDec_no (fun K' A' B' U' G' p' q' ds' _ _ _ he => by rw [he, bytesO_len] at hz; omega))
    clear h hbd
    go_enter Try.func19, Try.ntmps19
    go_wp2_with (refine wpList_store_row rfl 34 _ _ rfl w.heap.size noOp rfl rfl 34 _ KW.out.1 infoO8 rfl noOp_one ?_)
    refine bodyPost_ret (v := .tuple #[.agg noOp, .int .i64 21]) ?_ rfl ⟨0, 0, 0, 0, 0, ⟨#[]⟩, ⟨#[]⟩, .slice none 0 0, [], 21, rfl, HF.out, World.ownsRow_nil _ _ _ _, below_setRow KW.out.2 (Nat.le_refl _) _⟩
    exact results_row_tmp rfl _ _ w.heap.size 34 noOp (0, 0) _ _ rfl rfl (KW.out.1.row _) Try.underlying34 rfl infoO8
  have HB := hide hbd
  have HLE := hide hzl
  obtain ⟨bd, off, cap, rfl, hbw, hcl, hcm, hcell⟩ := h.partsC (by omega)
  unfold maxLen at hcm
  obtain ⟨W, hW⟩ : ∃ W, W = w.alloc (.cells #[.int .i64 0, .int .i64 0, .int .i64 0, .int .i64 0, .int .i64 0, .string ⟨#[]⟩, .string ⟨#[]⟩, .slice none 0 0] 34) := ⟨_, rfl⟩
  have hWs : w.heap.size < W.heap.size := by rw [hW]; simp
  rw [← hW] at KW
  have HRW := hide (fun (w' : World) (hb : Below W.heap.size W w') => (h.below KW.out.2).below hb)
  have c0 := hcell 0 (by omega)
  have HC0 := hide (fun (w' : World) (hb : Below W.heap.size W w') => (show w'.cell? ⟨bd, off, none⟩ = some (.int .u8 (mK zs)) from ((KW.out.2.trans (hb.mono (by omega))).cell (p := ⟨bd, off, none⟩) hbw).trans (by unfold mK; simpa using c0)))
  obtain ⟨hz0, hz0b⟩ := HB.out (mK zs) (by unfold mK; rw [List.getD_eq_getElem?_getD, List.getElem?_eq_getElem (show 0 < zs.length by omega)]; exact List.getElem_mem _)
  obtain ⟨X, hX⟩ : ∃ X : Array Value, X = (opC (mK zs) (wrap64 ((unle ((zs.drop 1).take 8) : Nat) : Int)) (wrap64 ((unle ((zs.drop 9).take 8) : Nat) : Int)) ((gval ((zs.drop 17).take 2) : Nat) : Int) ((gval ((zs.drop 19).take 2) : Nat) : Int) ⟨#[]⟩ ⟨#[]⟩ (.slice none 0 0)) := ⟨_, rfl⟩
  have HX := hide hX
  have HXZ := hide (show X.size = 8 from by rw [hX]; rfl)
  have HX1 := hide (show X.all (·.oneCell') = true from by rw [hX]; exact opC_one _ _ _ _ _ _ _ _ _ _)
  have HW9 := hide hW
  have hL29 : 29 ≤ zs.length := by omega
  have hL0 : 0 < zs.length := by omega
  have HBW := hide hbw
  have HR0 := hide h
  clear h hbd hcell hW hX c0 hzl hbw hz
  go_enter Try.func19, Try.ntmps19
  go_wp2
  rw [← HW9.out]
  refine wp_region_noPanic ?_
  refine wp_region_any (by kernel_rfl) ?_
  refine wpAny_invSB [(0, .slice (some ⟨bd, off, none⟩) zs.length cap), (2, .pointer (some ⟨w.heap.size, 0, none⟩)), (3, .int .i64 0)] (SO W X) (VDo bd off cap zs X) 93 [] (by kernel_rfl) ?hstep ?hfin _ _ (by rfl) (by rfl) ⟨(Below.refl _ _).drew, by rfl, by rfl, (fun h => by cases h), (fun h => by cases h)⟩ (by intro t v h; simp at h; rcases h with ⟨rfl, rfl⟩ | ⟨rfl, rfl⟩ | ⟨rfl, rfl⟩ <;> rfl)
  case hstep =>
    intro i o listed ac wz hi h0 hall hI
    have f0 : ac.tmps.getD 0 undef = .slice (some ⟨bd, off, none⟩) zs.length cap := hI.fix 0 _ (by simp)
    have hS := hI.held
    match i, hi with
    | 0, hi =>
      obtain rfl := Option.some.inj hi
      refine ⟨by rfl, ?_⟩
      clear hall h0
      go_simp
      exact ⟨_, rfl, rfl, hS.keep (Below.refl _ _) 0 19 _ (by omega) (by omega) (by omega)⟩
    | 1, hi =>
      obtain rfl := Option.some.inj hi
      have va : ac.tmps.getD 19 undef = .slice (some ⟨bd, off, none⟩) zs.length cap := hI.at hall 0 19 rfl rfl (by rfl)
      refine ⟨by rfl, ?_⟩
      clear hall h0
      go_simp
      exact ⟨_, rfl, rfl, hS.keep (Below.refl _ _) 1 20 _ (by omega) (by omega) (by omega)⟩
    | 2, hi =>
      obtain rfl := Option.some.inj hi
      have va : ac.tmps.getD 20 undef = .pointer (some ⟨bd, off, none⟩) := hI.at hall 1 20 rfl rfl (by rfl)
      have hc := HC0.out wz hS.1
      refine ⟨by rfl, ?_⟩
      clear hall h0
      go_simp
      exact ⟨_, rfl, rfl, hS.keep (Below.refl _ _) 2 21 _ (by omega) (by omega) (by omega)⟩
    | 3, hi =>
      obtain rfl := Option.some.inj hi
      have va : ac.tmps.getD 21 undef = .int .u8 (mK zs) := hI.at hall 2 21 rfl rfl (by rfl)
      refine ⟨by rfl, ?_⟩
      clear hall h0
      go_simp
      exact ⟨_, rfl, (by rw [wrapI8 _ hz0 hz0b]; rfl), hS.keep (Below.refl _ _) 3 22 _ (by omega) (by omega) (by omega)⟩
    | 4, hi =>
      obtain rfl := Option.some.inj hi
      refine ⟨by rfl, ?_⟩
      clear hall h0
      go_simp
      exact ⟨_, rfl, rfl, hS.keep (Below.refl _ _) 4 23 _ (by omega) (by omega) (by omega)⟩
    | 5, hi =>
      obtain rfl := Option.some.inj hi
      have va : ac.tmps.getD 23 undef = .slice (some ⟨bd, off, none⟩) zs.length cap := hI.at hall 4 23 rfl rfl (by rfl)
      refine ⟨by rfl, ?_⟩
      have hq1 : (9 : Int) ≤ (cap : Int) := by omega
      have hq2 : ¬ cap = 1 := by omega
      clear hall h0
      go_simp
      exact ⟨_, rfl, rfl, hS.keep (Below.refl _ _) 5 24 _ (by omega) (by omega) (by omega)⟩
    | 6, hi =>
      obtain rfl := Option.some.inj hi
      have va : ac.tmps.getD 24 undef = .slice (some ⟨bd, off + 1, none⟩) 8 (cap - 1) := hI.at hall 5 24 rfl rfl (by rfl)
      refine ⟨by rfl, ?_⟩
      clear hall h0
      go_simp
      have hr := Rd.cut2 1 8 (HRW.out wz hS.1) (by omega) (by omega)
      refine (unsigned_any _ ((zs.drop 1).take 8) _ hr (by rw [List.length_take, List.length_drop]; omega) (bytes_cutL HB.out 1 8)).mono ?_
      rintro e w' ⟨rfl, rfl⟩
      exact ⟨_, rfl, rfl, hS.keep (Below.refl _ _) 6 25 _ (by omega) (by omega) (by omega), fun _ _ h => h⟩
    | 7, hi =>
      obtain rfl := Option.some.inj hi
      refine ⟨by rfl, ?_⟩
      clear hall h0
      go_simp
      exact ⟨_, rfl, rfl, hS.keep (Below.refl _ _) 7 26 _ (by omega) (by omega) (by omega)⟩
    | 8, hi =>
      obtain rfl := Option.some.inj hi
      have va : ac.tmps.getD 26 undef = .slice (some ⟨bd, off, none⟩) zs.length cap := hI.at hall 7 26 rfl rfl (by rfl)
      refine ⟨by rfl, ?_⟩
      have hq1 : (17 : Int) ≤ (cap : Int) := by omega
      have hq2 : ¬ cap = 9 := by omega
      clear hall h0
      go_simp
      exact ⟨_, rfl, rfl, hS.keep (Below.refl _ _) 8 27 _ (by omega) (by omega) (by omega)⟩
    | 9, hi =>
      obtain rfl := Option.some.inj hi
      have va : ac.tmps.getD 27 undef = .slice (some ⟨bd, off + 9, none⟩) 8 (cap - 9) := hI.at hall 8 27 rfl rfl (by rfl)
      refine ⟨by rfl, ?_⟩
      clear hall h0
      go_simp
      have hr := Rd.cut2 9 8 (HRW.out wz hS.1) (by omega) (by omega)
      refine (unsigned_any _ ((zs.drop 9).take 8) _ hr (by rw [List.length_take, List.length_drop]; omega) (bytes_cutL HB.out 9 8)).mono ?_
      rintro e w' ⟨rfl, rfl⟩
      exact ⟨_, rfl, rfl, hS.keep (Below.refl _ _) 9 28 _ (by omega) (by omega) (by omega), fun _ _ h => h⟩
    | 10, hi =>
      obtain rfl := Option.some.inj hi
      refine ⟨by rfl, ?_⟩
      clear hall h0
      go_simp
      exact ⟨_, rfl, rfl, hS.keep (Below.refl _ _) 10 29 _ (by omega) (by omega) (by omega)⟩
    | 11, hi =>
      obtain rfl := Option.some.inj hi
      have va : ac.tmps.getD 29 undef = .slice (some ⟨bd, off, none⟩) zs.length cap := hI.at hall 10 29 rfl rfl (by rfl)
      refine ⟨by rfl, ?_⟩
      have hq1 : (19 : Int) ≤ (cap : Int) := by omega
      have hq2 : ¬ cap = 17 := by omega
      clear hall h0
      go_simp
      exact ⟨_, rfl, rfl, hS.keep (Below.refl _ _) 11 30 _ (by omega) (by omega) (by omega)⟩
    | 12, hi =>
      obtain rfl := Option.some.inj hi
      have va : ac.tmps.getD 30 undef = .slice (some ⟨bd, off + 17, none⟩) 2 (cap - 17) := hI.at hall 11 30 rfl rfl (by rfl)
      refine ⟨by rfl, ?_⟩
      clear hall h0
      go_simp
      have hr := Rd.cut2 17 2 (HRW.out wz hS.1) (by omega) (by omega)
      refine (get_any _ ((zs.drop 17).take 2) _ hr (by rw [List.length_take]; omega) (bytes_cutL HB.out 17 2)).mono ?_
      rintro e w' ⟨rfl, rfl⟩
      exact ⟨_, rfl, rfl, hS.keep (Below.refl _ _) 12 31 _ (by omega) (by omega) (by omega), fun _ _ h => h⟩
    | 13, hi =>
      obtain rfl := Option.some.inj hi
      refine ⟨by rfl, ?_⟩
      clear hall h0
      go_simp
      exact ⟨_, rfl, rfl, hS.keep (Below.refl _ _) 13 32 _ (by omega) (by omega) (by omega)⟩
    | 14, hi =>
      obtain rfl := Option.some.inj hi
      have va : ac.tmps.getD 32 undef = .slice (some ⟨bd, off, none⟩) zs.length cap := hI.at hall 13 32 rfl rfl (by rfl)
      refine ⟨by rfl, ?_⟩
      have hq1 : (21 : Int) ≤ (cap : Int) := by omega
      have hq2 : ¬ cap = 19 := by omega
      clear hall h0
      go_simp
      exact ⟨_, rfl, rfl, hS.keep (Below.refl _ _) 14 33 _ (by omega) (by omega) (by omega)⟩
    | 15, hi =>
      obtain rfl := Option.some.inj hi
      have va : ac.tmps.getD 33 undef = .slice (some ⟨bd, off + 19, none⟩) 2 (cap - 19) := hI.at hall 14 33 rfl rfl (by rfl)
      refine ⟨by rfl, ?_⟩
      clear hall h0
      go_simp
      have hr := Rd.cut2 19 2 (HRW.out wz hS.1) (by omega) (by omega)
      refine (get_any _ ((zs.drop 19).take 2) _ hr (by rw [List.length_take]; omega) (bytes_cutL HB.out 19 2)).mono ?_
      rintro e w' ⟨rfl, rfl⟩
      exact ⟨_, rfl, rfl, hS.keep (Below.refl _ _) 15 34 _ (by omega) (by omega) (by omega), fun _ _ h => h⟩
    | 16, hi =>
      obtain rfl := Option.some.inj hi
      have v0 : ac.tmps.getD 22 undef = .int .i64 (mK zs) := hI.at hall 3 22 rfl rfl (by rfl)
      have v1 : ac.tmps.getD 25 undef = .int .i64 (wrap64 ((unle ((zs.drop 1).take 8) : Nat) : Int)) := hI.at hall 6 25 rfl rfl (by rfl)
      have v2 : ac.tmps.getD 28 undef = .int .i64 (wrap64 ((unle ((zs.drop 9).take 8) : Nat) : Int)) := hI.at hall 9 28 rfl rfl (by rfl)
      have v3 : ac.tmps.getD 31 undef = .int .i64 ((gval ((zs.drop 17).take 2) : Nat) : Int) := hI.at hall 12 31 rfl rfl (by rfl)
      have v4 : ac.tmps.getD 34 undef = .int .i64 ((gval ((zs.drop 19).take 2) : Nat) : Int) := hI.at hall 15 34 rfl rfl (by rfl)
      refine ⟨by rfl, wp_buildV 34 _ rfl X ?_ ⟨_, rfl, rfl, hS.keep (Below.refl _ _) 16 35 _ (by omega) (by omega) (by omega), fun _ _ h => h⟩⟩
      have hl : ∀ k : Nat, ac.eval (.tmp k) = ac.tmps.getD k undef := fun k => by first | rfl | simp [Act.eval]
      simp only [List.map_toArray, List.map_cons, List.map_nil, hl, v0, v1, v2, v3, v4]
      rw [HX.out]
      exact build_op _ _ _ _ _
    | 17, hi =>
      obtain rfl := Option.some.inj hi
      refine ⟨by rfl, ?_⟩
      have HM := hide (hS.made h0)
      clear hall h0 hS
      go_simp
      exact ⟨_, rfl, trivial, HM.out, fun _ _ h => h⟩
    | 18, hi =>
      obtain rfl := Option.some.inj hi
      have v27 : ac.tmps.getD 35 undef = .agg X := hI.at hall 16 35 rfl rfl (by rfl)
      have h28 : listed.getD 17 false = true := listed_of hall 17 (by rfl)
      obtain ⟨g, k1, k2, k3⟩ := hS.2.2.2.2 h28
      refine ⟨by rfl, ?_⟩
      refine wp_store_row 34 _ _ rfl g X (by exact k1) (by exact v27) 34 _ k3 (by rw [HXZ.out]; exact infoO8) (by split <;> (first | rfl | (rw [HXZ.out]; rfl))) HX1.out ?_
      exact ⟨undef, rfl, trivial, hS.put g k1 k2 _ k3 _ h28, fun _ _ h => h⟩
  case hfin =>
    intro listed ac wz hl hI
    refine NoPanic.normal ?_
    have f0 : ac.tmps.getD 0 undef = .slice (some ⟨bd, off, none⟩) zs.length cap := hI.fix 0 _ (by simp)
    have f2 : ac.tmps.getD 2 undef = .pointer (some ⟨w.heap.size, 0, none⟩) := hI.fix 2 _ (by simp)
    have f3 : ac.tmps.getD 3 undef = .int .i64 0 := hI.fix 3 _ (by simp)
    obtain ⟨hBz, _, _, _, h5⟩ := hI.held
    obtain ⟨g, f4, hgW, hgB⟩ := h5 (hl 17 (by decide))
    rw [if_pos (hl 18 (by decide))] at hgB
    have hsz := hI.sz
    have hdf := hI.df
    clear hI hl h5
    obtain ⟨tm, dfs⟩ := ac
    simp only at f0 f2 f3 f4 hsz hdf
    subst hdf
    have hT := tmps93 tm hsz
    rw [f0, f2, f3, f4] at hT
    generalize tm.getD 1 undef = t1 at hT
    generalize tm.getD 5 undef = t5 at hT
    generalize tm.getD 6 undef = t6 at hT
    generalize tm.getD 7 undef = t7 at hT
    generalize tm.getD 8 undef = t8 at hT
    generalize tm.getD 9 undef = t9 at hT
    generalize tm.getD 10 undef = t10 at hT
    generalize tm.getD 11 undef = t11 at hT
    generalize tm.getD 12 undef = t12 at hT
    generalize tm.getD 13 undef = t13 at hT
    generalize tm.getD 14 undef = t14 at hT
    generalize tm.getD 15 undef = t15 at hT
    generalize tm.getD 16 undef = t16 at hT
    generalize tm.getD 17 undef = t17 at hT
    generalize tm.getD 18 undef = t18 at hT
    generalize tm.getD 19 undef = t19 at hT
    generalize tm.getD 20 undef = t20 at hT
    generalize tm.getD 21 undef = t21 at hT
    generalize tm.getD 22 undef = t22 at hT
    generalize tm.getD 23 undef = t23 at hT
    generalize tm.getD 24 undef = t24 at hT
    generalize tm.getD 25 undef = t25 at hT
    generalize tm.getD 26 undef = t26 at hT
    generalize tm.getD 27 undef = t27 at hT
    generalize tm.getD 28 undef = t28 at hT
    generalize tm.getD 29 undef = t29 at hT
    generalize tm.getD 30 undef = t30 at hT
    generalize tm.getD 31 undef = t31 at hT
    generalize tm.getD 32 undef = t32 at hT
    generalize tm.getD 33 undef = t33 at hT
    generalize tm.getD 34 undef = t34 at hT
    generalize tm.getD 35 undef = t35 at hT
    generalize tm.getD 36 undef = t36 at hT
    generalize tm.getD 37 undef = t37 at hT
    generalize tm.getD 38 undef = t38 at hT
    generalize tm.getD 39 undef = t39 at hT
    generalize tm.getD 40 undef = t40 at hT
    generalize tm.getD 41 undef = t41 at hT
    generalize tm.getD 42 undef = t42 at hT
    generalize tm.getD 43 undef = t43 at hT
    generalize tm.getD 44 undef = t44 at hT
    generalize tm.getD 45 undef = t45 at hT
    generalize tm.getD 46 undef = t46 at hT
    generalize tm.getD 47 undef = t47 at hT
    generalize tm.getD 48 undef = t48 at hT
    generalize tm.getD 49 undef = t49 at hT
    generalize tm.getD 50 undef = t50 at hT
    generalize tm.getD 51 undef = t51 at hT
    generalize tm.getD 52 undef = t52 at hT
    generalize tm.getD 53 undef = t53 at hT
    generalize tm.getD 54 undef = t54 at hT
    generalize tm.getD 55 undef = t55 at hT
    generalize tm.getD 56 undef = t56 at hT
    generalize tm.getD 57 undef = t57 at hT
    generalize tm.getD 58 undef = t58 at hT
    generalize tm.getD 59 undef = t59 at hT
    generalize tm.getD 60 undef = t60 at hT
    generalize tm.getD 61 undef = t61 at hT
    generalize tm.getD 62 undef = t62 at hT
    generalize tm.getD 63 undef = t63 at hT
    generalize tm.getD 64 undef = t64 at hT
    generalize tm.getD 65 undef = t65 at hT
    generalize tm.getD 66 undef = t66 at hT
    generalize tm.getD 67 undef = t67 at hT
    generalize tm.getD 68 undef = t68 at hT
    generalize tm.getD 69 undef = t69 at hT
    generalize tm.getD 70 undef = t70 at hT
    generalize tm.getD 71 undef = t71 at hT
    generalize tm.getD 72 undef = t72 at hT
    generalize tm.getD 73 undef = t73 at hT
    generalize tm.getD 74 undef = t74 at hT
    generalize tm.getD 75 undef = t75 at hT
    generalize tm.getD 76 undef = t76 at hT
    generalize tm.getD 77 undef = t77 at hT
    generalize tm.getD 78 undef = t78 at hT
    generalize tm.getD 79 undef = t79 at hT
    generalize tm.getD 80 undef = t80 at hT
    generalize tm.getD 81 undef = t81 at hT
    generalize tm.getD 82 undef = t82 at hT
    generalize tm.getD 83 undef = t83 at hT
    generalize tm.getD 84 undef = t84 at hT
    generalize tm.getD 85 undef = t85 at hT
    generalize tm.getD 86 undef = t86 at hT
    generalize tm.getD 87 undef = t87 at hT
    generalize tm.getD 88 undef = t88 at hT
    generalize tm.getD 89 undef = t89 at hT
    generalize tm.getD 90 undef = t90 at hT
    generalize tm.getD 91 undef = t91 at hT
    generalize tm.getD 92 undef = t92 at hT
    clear hsz f0 f2 f3 f4
    subst hT
    have hgz : g < wz.heap.size := hgB.lt
    obtain ⟨kK, kA, kB, kU, kG, hkk⟩ : ∃ a b c d e : Int, a = (mK zs) ∧ b = (wrap64 ((unle ((zs.drop 1).take 8) : Nat) : Int)) ∧ c = (wrap64 ((unle ((zs.drop 9).take 8) : Nat) : Int)) ∧ d = ((gval ((zs.drop 17).take 2) : Nat) : Int) ∧ e = ((gval ((zs.drop 19).take 2) : Nat) : Int) := ⟨_, _, _, _, _, rfl, rfl, rfl, rfl, rfl⟩
    have HKK := hide hkk
    have KG := hide (show Blk wz g (opC kK kA kB kU kG ⟨#[]⟩ ⟨#[]⟩ (.slice none 0 0)) 34 from by rw [hkk.1, hkk.2.1, hkk.2.2.1, hkk.2.2.2.1, hkk.2.2.2.2, ← HX.out]; exact hgB)
    clear hkk
    have HBz := hide hBz
    have hlm := m_len zs
    have hX5 : mX5 zs ≤ 4294967296 := by unfold mX5; have := gval2 (bytes_cutL HB.out 21 2) (by rw [List.length_take]; omega); omega
    have hX6 : mX6 zs ≤ 4294967296 := by unfold mX6; have := gval2 (m_bd HB.out).1 (by omega); omega
    have hle := HLE.out
    have HRw := hide (show Rd .u8 w (.slice (some ⟨bd, off, none⟩) zs.length cap) zs from HR0.out)
    have hq1 : (23 : Int) ≤ (cap : Int) := by omega
    have hq2 : ¬ cap = 23 := by omega
    have hq3 : ¬ cap = 21 := by omega
    have hq4 : ¬ (zs.length : Int) < 23 := by omega
    have hq5 : (23 : Int) ≤ (zs.length : Int) := by omega
    clear hgB hBz
    go_wp2
    refine wp_region_noPanic ?_
    refine wp_region_held_drew (S := fun w' => Below wz.heap.size wz w') (by kernel_rfl) ((Below.refl _ _).drew) (fun hH => ?_)
    refine wpAnyH_take (i := 0) (oi := _) (v := .slice (some ⟨bd, off, none⟩) zs.length cap) rfl (by kernel_rfl) (by kernel_rfl) (by kernel_rfl) (fun _ _ _ h => h) (Or.inl ⟨by rfl, fun w' hw' => by go_simp⟩) hH ?_
    try simp only [Act.put, List.getElem_toArray, List.getElem_cons_zero, List.getElem_cons_succ, List.setIfInBounds_toArray, List.set_cons_zero, List.set_cons_succ]
    refine wpAnyH_take (i := 1) (oi := _) (v := .slice (some ⟨bd, off + 23, none⟩) (zs.length - 23) (cap - 23)) rfl (by kernel_rfl) (by kernel_rfl) (by kernel_rfl) (fun _ _ _ h => h) (Or.inl ⟨by rfl, fun w' hw' => by go_simp⟩) hH ?_
    try simp only [Act.put, List.getElem_toArray, List.getElem_cons_zero, List.getElem_cons_succ, List.setIfInBounds_toArray, List.set_cons_zero, List.set_cons_succ]
    refine wpAnyH_take (i := 2) (oi := _) (v := .slice (some ⟨bd, off, none⟩) zs.length cap) rfl (by kernel_rfl) (by kernel_rfl) (by kernel_rfl) (fun _ _ _ h => h) (Or.inl ⟨by rfl, fun w' hw' => by go_simp⟩) hH ?_
    try simp only [Act.put, List.getElem_toArray, List.getElem_cons_zero, List.getElem_cons_succ, List.setIfInBounds_toArray, List.set_cons_zero, List.set_cons_succ]
    refine wpAnyH_take (i := 3) (oi := _) (v := .slice (some ⟨bd, off + 21, none⟩) 2 (cap - 21)) rfl (by kernel_rfl) (by kernel_rfl) (by kernel_rfl) (fun _ _ _ h => h) (Or.inl ⟨by rfl, fun w' hw' => by go_simp⟩) hH ?_
    try simp only [Act.put, List.getElem_toArray, List.getElem_cons_zero, List.getElem_cons_succ, List.setIfInBounds_toArray, List.set_cons_zero, List.set_cons_succ]
    refine wpAnyH_ready (rs := [4]) (by kernel_rfl) (by simp) ?_
    refine AllReadyH.cons (o := _) rfl ?_ AllReadyH.nil
    intro K hK
    go_simp
    have hr := Rd.cut2 21 2 (HRW.out _ (HBz.out.trans (hH.mono HBz.out.size))) (by omega) (by omega)
    refine (get_any _ ((zs.drop 21).take 2) _ hr (by rw [List.length_take]; omega) (bytes_cutL HB.out 21 2)).mono ?_
    rintro e w' ⟨rfl, rfl⟩
    refine hK.out _ _ hH (fun hH => ?_)
    clear hK K hr
    try simp only [Act.put, List.getElem_toArray, List.getElem_cons_zero, List.getElem_cons_succ, List.setIfInBounds_toArray, List.set_cons_zero, List.set_cons_succ]
    refine wpAnyH_ready (rs := [5]) (by kernel_rfl) (by simp) ?_
    refine AllReadyH.cons (o := _) rfl ?_ AllReadyH.nil
    intro K hK
    go_simp
    have hr := rd_take HRw.out 23 (zs.length - 23) (cap - 23) (by omega) (by omega) (by unfold maxLen; omega)
    rw [List.take_of_length_le (by rw [List.length_drop]; omega)] at hr
    refine (part_eq _ (zs.drop 23) (mX5 zs) _ w _ rfl hr hX5 (by rw [List.length_drop]; omega)).mono ?_
    rintro e w1 ⟨v1, v2, rfl, r1, r2, b1⟩
    have B1 := hide (hH.trans (b1.mono hH.size))
    have P1 := hide (show Rd .u8 w v1 (mP zs) from r1)
    have R1 := hide (show Rd .u8 w v2 (mR1 zs) from r2)
    refine hK.out _ _ B1.out (fun hH => ?_)
    clear hK K hr r1 r2 b1
    try simp only [Act.put, List.getElem_toArray, List.getElem_cons_zero, List.getElem_cons_succ, List.setIfInBounds_toArray, List.set_cons_zero, List.set_cons_succ]
    refine wpAnyH_take (i := 6) (oi := _) (v := .tuple #[v1, v2]) rfl (by kernel_rfl) (by kernel_rfl) (by kernel_rfl) (fun _ _ _ h => h) (Or.inl ⟨by rfl, fun w' hw' => by go_simp⟩) hH ?_
    try simp only [Act.put, List.getElem_toArray, List.getElem_cons_zero, List.getElem_cons_succ, List.setIfInBounds_toArray, List.set_cons_zero, List.set_cons_succ]
    refine wpAnyH_take (i := 7) (oi := _) (v := v1) rfl (by kernel_rfl) (by kernel_rfl) (by kernel_rfl) (fun _ _ _ h => h) (Or.inl ⟨by rfl, fun w' hw' => by go_simp⟩) hH ?_
    try simp only [Act.put, List.getElem_toArray, List.getElem_cons_zero, List.getElem_cons_succ, List.setIfInBounds_toArray, List.set_cons_zero, List.set_cons_succ]
    refine wpAnyH_take (i := 8) (oi := _) (v := v2) rfl (by kernel_rfl) (by kernel_rfl) (by kernel_rfl) (fun _ _ _ h => h) (Or.inl ⟨by rfl, fun w' hw' => by go_simp⟩) hH ?_
    try simp only [Act.put, List.getElem_toArray, List.getElem_cons_zero, List.getElem_cons_succ, List.setIfInBounds_toArray, List.set_cons_zero, List.set_cons_succ]
    refine wpAnyH_ready (rs := [9]) (by kernel_rfl) (by simp) ?_
    refine AllReadyH.cons (o := _) rfl ?_ AllReadyH.nil
    intro K hK
    go_simp
    refine hK.out _ _ hH (fun hH => ?_)
    clear hK K
    try simp only [Act.put, List.getElem_toArray, List.getElem_cons_zero, List.getElem_cons_succ, List.setIfInBounds_toArray, List.set_cons_zero, List.set_cons_succ]
    refine wpAnyH_ready (rs := [10]) (by kernel_rfl) (by simp) ?_
    refine AllReadyH.cons (o := _) rfl ?_ AllReadyH.nil
    intro K hK
    go_simp
    refine hK.out _ _ hH (fun hH => ?_)
    clear hK K
    try simp only [Act.put, List.getElem_toArray, List.getElem_cons_zero, List.getElem_cons_succ, List.setIfInBounds_toArray, List.set_cons_zero, List.set_cons_succ]
    refine wpAnyH_done (by kernel_rfl) (NoPanic.normal ?_) _
    clear hH
    have BW1 := hide (HBz.out.trans (B1.out.mono HBz.out.size))
    have KG1 := hide (KG.out.below B1.out hgz)
    clear B1 HBz KG
    go_wp2_with (go_at_call 28; fail)
    refine (part_eq v2 (mR1 zs) 2 _ w _ rfl R1.out (by omega) (by omega)).mono ?_
    rintro e w2 ⟨v3, v4, rfl, r3, r4, b2⟩
    have S1 := hide (show Rd .u8 w v3 (mS1 zs) from r3)
    have R2 := hide (show Rd .u8 w v4 (mR2 zs) from r4)
    have BW2 := hide (BW1.out.trans (b2.mono BW1.out.size))
    have KG2 := hide (KG1.out.below b2 KG1.out.lt)
    clear r3 r4 b2 BW1 KG1 R1
    have BX := hide (fun (w' : World) (hb : Below W.heap.size W w') => KW.out.2.trans (hb.mono (by omega)))
    go_wp2_with (go_at_call 18; fail)
    refine (get_any v3 (mS1 zs) _ (S1.out.below (BX.out _ BW2.out)) (by omega) (m_bd HB.out).1).mono ?_
    rintro e w' ⟨rfl, rfl⟩
    go_wp2_with (go_at_call 28; fail)
    refine (part_eq v4 (mR2 zs) (mX6 zs) _ w _ rfl R2.out hX6 (by omega)).mono ?_
    rintro e w3 ⟨v5, v6, rfl, r5, r6, b3⟩
    have Q1 := hide (show Rd .u8 w v5 (mQ zs) from r5)
    have R3 := hide (show Rd .u8 w v6 (mR3 zs) from r6)
    have BW3 := hide (BW2.out.trans (b3.mono BW2.out.size))
    have KG3 := hide (KG2.out.below b3 KG2.out.lt)
    clear r5 r6 b3 BW2 KG2 R2 S1
    go_wp2_with (go_at_call 28; fail)
    refine (part_eq v6 (mR3 zs) 4 _ w _ rfl R3.out (by omega) (by omega)).mono ?_
    rintro e w4 ⟨v7, v8, rfl, r7, r8, b4⟩
    have S2 := hide (show Rd .u8 w v7 (mS2 zs) from r7)
    have D1 := hide (show Rd .u8 w v8 (mD zs) from r8)
    have BW4 := hide (BW3.out.trans (b4.mono BW3.out.size))
    have KG4 := hide (KG3.out.below b4 KG3.out.lt)
    clear r7 r8 b4 BW3 KG3 R3
    obtain ⟨i0, hi, hy0, hy1, hy2⟩ := info_parts infoU8
    have hcv1 := conv_rdO (P1.out.below (BX.out _ BW4.out))
    have hbx5 : Below W.heap.size W (w4.setCell ⟨g, 5, none⟩ (.string (strOfNums (mP zs)))) := BW4.out.setCell (p := ⟨g, 5, none⟩) hgW _
    have hcv2 := conv_rdO (Q1.out.below (BX.out _ hbx5))
    have KG5 := hide (show Blk (w4.setCell ⟨g, 5, none⟩ (.string (strOfNums (mP zs)))) g (opC kK kA kB kU kG (strOfNums (mP zs)) ⟨#[]⟩ (.slice none 0 0)) 34 from KG4.out.set 5 _)
    have KG6 := hide (show Blk ((w4.setCell ⟨g, 5, none⟩ (.string (strOfNums (mP zs)))).setCell ⟨g, 6, none⟩ (.string (strOfNums (mQ zs)))) g (opC kK kA kB kU kG (strOfNums (mP zs)) (strOfNums (mQ zs)) (.slice none 0 0)) 34 from KG5.out.set 6 _)
    have BW6 := hide (show Below W.heap.size W ((w4.setCell ⟨g, 5, none⟩ (.string (strOfNums (mP zs)))).setCell ⟨g, 6, none⟩ (.string (strOfNums (mQ zs)))) from hbx5.setCell (p := ⟨g, 6, none⟩) hgW _)
    have c5 := (KG4.out.cell 5).trans (show (opC kK kA kB kU kG ⟨#[]⟩ ⟨#[]⟩ (.slice none 0 0))[5]? = some (.string ⟨#[]⟩) from rfl)
    have c6 := (KG4.out.cell 6).trans (show (opC kK kA kB kU kG ⟨#[]⟩ ⟨#[]⟩ (.slice none 0 0))[6]? = some (.string ⟨#[]⟩) from rfl)
    have f5 := KG4.out.frozen 5
    have f6 := KG4.out.frozen 6
    have hg4 : g < w4.heap.size := KG4.out.lt
    have OE := hide (show (((w4.setCell ⟨g, 5, none⟩ (.string (strOfNums (mP zs)))).setCell ⟨g, 6, none⟩ (.string (strOfNums (mQ zs)))).alloc (.cells #[] 5)).ownsRow w4.heap.size 5 1 (.slice (some ⟨w4.heap.size, 0, none⟩) 0 0) 0 [] from by have h := own_empty ((w4.setCell ⟨g, 5, none⟩ (.string (strOfNums (mP zs)))).setCell ⟨g, 6, none⟩ (.string (strOfNums (mQ zs)))) 5; simpa using h)
    have BA6 := hide (BW6.out.alloc BW6.out.size (.cells #[] 5))
    clear hbx5 KG4 KG5
    obtain ⟨sp, hsp⟩ : ∃ sp, sp = strOfNums (mP zs) := ⟨_, rfl⟩
    obtain ⟨sq, hsq⟩ : ∃ sq, sq = strOfNums (mQ zs) := ⟨_, rfl⟩
    have HSP := hide (show sp.size ≤ 1048576 ∧ sq.size ≤ 1048576 ∧ strOfNums (mP zs) = sp ∧ strOfNums (mQ zs) = sq from ⟨by rw [hsp, strOfNums_size]; omega, by rw [hsq, strOfNums_size]; omega, hsp.symm, hsq.symm⟩)
    rw [← hsp] at hcv1 hcv2 KG6 BW6 OE BA6
    rw [← hsq] at hcv2 KG6 BW6 OE BA6
    clear hsp hsq
    go_wp2_with (first | (at_builtin; refine wpList_append_rdL _ rfl (.tmp 68) (.tmp 69) 22 rfl w4.heap.size 5 i0 Try.underlying22 hi hy0 hy1 hy2 w4.heap.size 0 0 [] rfl OE.out v8 (mD zs) rfl (D1.out.below (BX.out _ BA6.out)) (by omega) (by simp) ?_; intro g9 c9 w9 o9 gr9; have k9 : Blk w9 g (opC kK kA kB kU kG sp sq (.slice none 0 0)) 34 := (gr9.block _ (by simp; omega) (by simp; omega)).trans (KG6.out.alloc _); have c7 := (k9.cell 7).trans (show ((opC kK kA kB kU kG sp sq (.slice none 0 0)))[7]? = some (.slice none 0 0) from rfl); have f7 := k9.frozen 7; rw [Nat.zero_add] at o9 ⊢; rw [List.nil_append] at o9; have KGA := hide (show Blk (w9.setCell ⟨g, 7, none⟩ (.slice (some ⟨g9, 0, none⟩) (mD zs).length c9)) g (opC kK kA kB kU kG sp sq (.slice (some ⟨g9, 0, none⟩) (mD zs).length c9)) 34 from k9.set 7 _); have H9 := hide (And.intro o9 gr9); clear o9 gr9 k9) | (refine wpList_load_row rfl 34 _ rfl g rfl 34 (opC kK kA kB kU kG sp sq (.slice (some ⟨g9, 0, none⟩) (mD zs).length c9)) (0, 0) _ KGA.out Try.underlying34 rfl infoO8 ?_) | (go_at_call 29; fail))
    have BW9 := hide (show Below W.heap.size W w9 from BA6.out.grown H9.out.2 (by simp; have := BW6.out.size; simp at this; omega) (fun k e => by cases e; have := BW6.out.size; simp at this; omega))
    have BWA := hide (show Below W.heap.size W (w9.setCell ⟨g, 7, none⟩ (.slice (some ⟨g9, 0, none⟩) (mD zs).length c9)) from BW9.out.setCell (p := ⟨g, 7, none⟩) hgW _)
    have OA := hide (own_asideO H9.out.1 ⟨g, 7, none⟩ (.slice (some ⟨g9, 0, none⟩) (mD zs).length c9) (by show g < w4.heap.size; omega))
    generalize w9.setCell ⟨g, 7, none⟩ (.slice (some ⟨g9, 0, none⟩) (mD zs).length c9) = wA at KGA BWA OA ⊢
    refine (specEO_any kK kA kB kU kG sp sq (.slice (some ⟨g9, 0, none⟩) (mD zs).length c9) (mD zs) _ (Rd.own OA.out) (by have := HSP.out.1; unfold maxLen; omega) (by have := HSP.out.2.1; unfold maxLen; omega)).mono ?_
    rintro e wE ⟨vE, rfl, oE, bE⟩
    have BWE := hide (BWA.out.trans (bE.mono BWA.out.size))
    have KGE := hide (KGA.out.below bE KGA.out.lt)
    have OAE := hide (own_below OA.out bE)
    have RE := hide (Rd.own oE)
    have KR := hide (show Blk wE w.heap.size noOp 34 from KW.out.1.below BWE.out (by omega))
    have BE := hide (BX.out _ BWE.out)
    clear oE bE BWA KGA OA BW9 H9 c5 c6 f5 f6 c7 f7 hcv1 hcv2 KG6 BW6 OE BA6 D1 P1 Q1
    obtain ⟨aE, cE, rfl⟩ : ∃ a c, vE = .slice a (encO kK kA kB kU kG sp sq (mD zs)).length c := by obtain ⟨a, c, e, _⟩ := RE.out; exact ⟨a, c, e⟩
    obtain ⟨a7, c7, rfl⟩ : ∃ a c, v7 = .slice a (mS2 zs).length c := by obtain ⟨a, c, e, _⟩ := S2.out; exact ⟨a, c, e⟩
    have hs2 : (mS2 zs).length ≤ 4 := by unfold mS2; rw [List.length_take]; omega
    have HBad := hide (show (rightO kK kU kG sp sq (mD zs).length = true → 4 ≤ (mS2 zs).length → encO kK kA kB kU kG sp sq (mD zs) = zs → False) → IsDec zs 0 0 0 0 0 ⟨#[]⟩ ⟨#[]⟩ [] 21 from fun hno => isDec_no (fun K' A' B' U' G' p' q' ds' hr' hA' hB' he => by
      obtain ⟨_, m1, m2, m3, m4, m5, m6, m7, m8, m9⟩ := m_back HB.out hr' hA' hB' he
      have m6' : sp = p' := HSP.out.2.2.1.symm.trans m6
      have m7' : sq = q' := HSP.out.2.2.2.symm.trans m7
      rw [HKK.out.1.trans m1, HKK.out.2.1.trans m2, HKK.out.2.2.1.trans m3, HKK.out.2.2.2.1.trans m4, HKK.out.2.2.2.2.trans m5, m6', m7', m9] at hno
      refine hno hr' (by omega) ?_
      unfold encO
      rw [if_pos hr', he]))
    cases hr : rightO kK kU kG sp sq (mD zs).length with
    | false =>
      have HF := hide (HBad.out (fun h => by rw [hr] at h; cases h))
      rw [show codeEO kK kU kG sp sq (mD zs).length = 7 from by simp [codeEO, hr]]
      clear hr HBad
      go_wp2_with (refine wpList_store_row rfl 34 _ _ rfl w.heap.size noOp rfl rfl 34 _ KR.out infoO8 rfl noOp_one ?_)
      refine bodyPost_ret (v := .tuple #[.agg noOp, .int .i64 21]) ?_ rfl ⟨0, 0, 0, 0, 0, ⟨#[]⟩, ⟨#[]⟩, .slice none 0 0, [], 21, rfl, HF.out, World.ownsRow_nil _ _ _ _, below_setRow BE.out (Nat.le_refl _) _⟩
      exact results_row_tmp rfl _ _ w.heap.size 34 noOp (0, 0) _ _ rfl rfl (KR.out.row _) Try.underlying34 rfl infoO8
    | true =>
      have HEB := hide (show (∀ z ∈ encO kK kA kB kU kG sp sq (mD zs), 0 ≤ z ∧ z < 256) ∧ encO kK kA kB kU kG sp sq (mD zs) = bytesO (kK).toNat kA kB (kU).toNat (kG).toNat sp sq (mD zs) from ⟨encO_bd _ _ _ _ _ _ _ _ (m_bd HB.out).2, by unfold encO; rw [if_pos hr]⟩)
      rw [show codeEO kK kU kG sp sq (mD zs).length = 0 from by simp [codeEO, hr]]
      have HRT := hide hr
      clear hr
      by_cases h4 : (mS2 zs).length < 4
      · have HF := hide (HBad.out (fun _ h => by omega))
        clear HBad
        go_wp2_with (refine wpList_store_row rfl 34 _ _ rfl w.heap.size noOp rfl rfl 34 _ KR.out infoO8 rfl noOp_one ?_)
        refine bodyPost_ret (v := .tuple #[.agg noOp, .int .i64 21]) ?_ rfl ⟨0, 0, 0, 0, 0, ⟨#[]⟩, ⟨#[]⟩, .slice none 0 0, [], 21, rfl, HF.out, World.ownsRow_nil _ _ _ _, below_setRow BE.out (Nat.le_refl _) _⟩
        exact results_row_tmp rfl _ _ w.heap.size 34 noOp (0, 0) _ _ rfl rfl (KR.out.row _) Try.underlying34 rfl infoO8
      · have hcE := conv_rdO RE.out
        have hcZ := conv_rdO (HRW.out wE BWE.out)
        by_cases hEz : encO kK kA kB kU kG sp sq (mD zs) = zs
        · have HF := hide (show IsDec zs kK kA kB kU kG sp sq (mD zs) 0 from .inl ⟨rfl, hEz.symm.trans HEB.out.2, HRT.out, by rw [HKK.out.2.1]; exact wrap_range _, by rw [HKK.out.2.2.1]; exact wrap_range _⟩)
          rw [hEz] at hcE ⊢
          clear hEz HBad
          generalize strOfNums zs = SS at hcE hcZ
          go_wp2_with (first | (refine wpList_load_row rfl 34 _ rfl g rfl 34 (opC kK kA kB kU kG sp sq (.slice (some ⟨g9, 0, none⟩) (mD zs).length c9)) (0, 0) _ KGE.out Try.underlying34 rfl infoO8 ?_) | (refine wpList_store_row rfl 34 _ _ rfl w.heap.size (opC kK kA kB kU kG sp sq (.slice (some ⟨g9, 0, none⟩) (mD zs).length c9)) rfl rfl 34 _ KR.out infoO8 rfl (opC_one _ _ _ _ _ _ _ _ _ _) ?_))
          refine bodyPost_ret (v := .tuple #[.agg (opC kK kA kB kU kG sp sq (.slice (some ⟨g9, 0, none⟩) (mD zs).length c9)), .int .i64 0]) ?_ rfl ⟨kK, kA, kB, kU, kG, sp, sq, .slice (some ⟨g9, 0, none⟩) (mD zs).length c9, mD zs, 0, rfl, HF.out, own_mono (own_rowO OAE.out _ _ (by omega)) (by omega), below_setRow BE.out (Nat.le_refl _) _⟩
          exact results_row_tmp rfl _ _ w.heap.size 34 (opC kK kA kB kU kG sp sq (.slice (some ⟨g9, 0, none⟩) (mD zs).length c9)) (0, 0) _ _ rfl rfl (KR.out.row _) Try.underlying34 rfl infoO8
        · have HF := hide (HBad.out (fun _ _ h => hEz h))
          have hne : ¬ (strOfNums (encO kK kA kB kU kG sp sq (mD zs))).toList = (strOfNums zs).toList := fun h => hEz (strOf_injL HEB.out.1 HB.out h)
          clear hEz HBad
          generalize strOfNums zs = S1 at hcZ hne
          generalize strOfNums (encO kK kA kB kU kG sp sq (mD zs)) = S3 at hcE hne
          have hne1 : (S3.toList == S1.toList) = false := by simpa using hne
          clear hne
          go_wp2_with (refine wpList_store_row rfl 34 _ _ rfl w.heap.size noOp rfl rfl 34 _ KR.out infoO8 rfl noOp_one ?_)
          refine bodyPost_ret (v := .tuple #[.agg noOp, .int .i64 21]) ?_ rfl ⟨0, 0, 0, 0, 0, ⟨#[]⟩, ⟨#[]⟩, .slice none 0 0, [], 21, rfl, HF.out, World.ownsRow_nil _ _ _ _, below_setRow BE.out (Nat.le_refl _) _⟩
          exact results_row_tmp rfl _ _ w.heap.size 34 noOp (0, 0) _ _ rfl rfl (KR.out.row _) Try.underlying34 rfl infoO8
end Go.Proofs.Ythkoflpcinbgeaa
