/- A region that draws its order, by what each operation's value is to be: one step an operation, whatever the order. EncodeSnap of the model: the bytes. -/
import Derived.Test.YtplieplmhdfndaaGreatDoorZg01
import Derived.Orders
import Derived.Test.YtplieplmhdfndaaGreatDoorZg10
import Derived.Lib.ConvBytes
import Derived.Lib.SmallJoins
namespace Go.Proofs.YtplieplmhdfndaaGreatDoor
set_option linter.unusedVariables false
set_option linter.unusedSimpArgs false
open Go.RowKit

/-- What stands in the midst of the region: the frame's size, the slots that no operation writes, what holds of the world, what the values of those that came up are. -/
structure RInv (ops : Array Oper) (fs : List (Nat × Value)) (S : World → Prop) (V : Nat → Value → World → Prop) (m : Nat) (ds : List Deferred) (listed : Array Bool) (a : Act) (w : World) : Prop where
  sz : a.tmps.size = m
  df : a.defers = ds
  held : S w
  vals : ∀ i o d, ops[i]? = some o → listed.getD i false = true → o.dst = some d → V i (a.tmps.getD d undef) w
  fix : ∀ t v, (t, v) ∈ fs → a.tmps.getD t undef = v
  seen : ∀ i o, ops[i]? = some o → listed.getD i false = true → ∃ v, V i v w

theorem getD_put {a : Act} {d t : Nat} {v : Value} (hd : d < a.tmps.size) : (a.put (some d) v).tmps.getD t undef = if t = d then v else a.tmps.getD t undef := by
  simp only [Act.put, Array.getD_eq_getD_getElem?, Array.getElem?_setIfInBounds]
  by_cases h : d = t
  · subst h; simp [hd]
  · simp [h, Ne.symm h]
theorem listed_set {listed : Array Bool} {i j : Nat} (hi : i < listed.size) : (listed.setIfInBounds i true).getD j false = if j = i then true else listed.getD j false := by
  simp only [Array.getD_eq_getD_getElem?, Array.getElem?_setIfInBounds]
  by_cases h : i = j
  · subst h; simp [hi]
  · simp [h, Ne.symm h]
theorem count_set {listed : Array Bool} {i : Nat} (hi : i < listed.size) (h : listed.getD i true = false) : (listed.setIfInBounds i true).toList.count false + 1 = listed.toList.count false := by
  have hl : listed[i] = false := by simpa [hi] using h
  rw [Array.toList_setIfInBounds, List.count_set (by simpa using hi)]
  have hp : 0 < listed.toList.count false := List.count_pos_iff.2 (by rw [← hl]; exact Array.mem_toList_iff.2 (Array.getElem_mem hi))
  simp [hl]
  have : List.count false listed.toList = Array.count false listed := by simp
  omega

theorem ready_nil {ops : Array Oper} {listed : Array Bool} {md : Region.Mode} (hsz : listed.size = ops.size) (hord : ∀ (i : Nat) (o : Oper), ops[i]? = some o → ∀ e ∈ o.after, e.on < i) (h : Region.ready md ops listed = []) : ∀ i, i < ops.size → listed.getD i false = true := by
  intro i
  induction i using Nat.strongRecOn with
  | ind i ih =>
    intro hi
    cases e : listed.getD i false with
    | true => rfl
    | false =>
      exfalso
      have hm : i ∈ Region.ready md ops listed := by
        rw [mem_ready]
        refine ⟨?_, ops[i], Array.getElem?_eq_getElem hi, fun ed he _ => ih ed.on (hord i ops[i] (Array.getElem?_eq_getElem hi) ed he) ?_⟩
        · rw [Array.getD_eq_getD_getElem?, Array.getElem?_eq_getElem (by omega)] at e ⊢
          exact e
        · have := hord i ops[i] (Array.getElem?_eq_getElem hi) ed he
          omega
      rw [h] at hm
      cases hm

theorem wpAny_inv {P : Program} {ops : Array Oper} {Q : Exit → Act → World → Prop} (fs : List (Nat × Value)) (S : World → Prop) (V : Nat → Value → World → Prop) (m : Nat) (ds : List Deferred)
    (hord : ∀ (i : Nat) (o : Oper), ops[i]? = some o → ∀ e ∈ o.after, e.on < i)
    (hdst : ∀ (i j : Nat) (oi oj : Oper) (d : Nat), ops[i]? = some oi → ops[j]? = some oj → oi.dst = some d → oj.dst = some d → i = j)
    (hfix : ∀ (i : Nat) (o : Oper) (d : Nat), ops[i]? = some o → o.dst = some d → d < m ∧ ∀ v, (d, v) ∉ fs)
    (hstep : ∀ (i : Nat) (o : Oper) (listed : Array Bool) (a : Act) (w : World), ops[i]? = some o → (∀ e ∈ o.after, Region.binds .any e = true → listed.getD e.on false = true) → RInv ops fs S V m ds listed a w →
      Region.wanted o (yielded ops a.tmps) = true ∧ o.wp P a w (fun a' w' => ∃ v, a' = a.put o.dst v ∧ V i v w' ∧ S w' ∧ ∀ j u, V j u w → V j u w') Q)
    (hfin : ∀ listed a w, (∀ i, i < ops.size → listed.getD i false = true) → RInv ops fs S V m ds listed a w → Q .normal a w) :
    ∀ (fuel : Nat) (listed : Array Bool) (a : Act) (w : World), listed.size = ops.size → listed.toList.count false ≤ fuel → RInv ops fs S V m ds listed a w → wpAny P .any ops Q fuel listed a w
  | 0, listed, a, w, hsz, hc, hI => by
    have hall : ∀ i, i < ops.size → listed.getD i false = true := by
      intro i hi
      cases e : listed.getD i false with
      | true => rfl
      | false =>
        have : false ∈ listed.toList := by
          rw [Array.getD_eq_getD_getElem?, Array.getElem?_eq_getElem (by omega), Option.getD_some] at e
          rw [← e]; exact Array.mem_toList_iff.2 (Array.getElem_mem (by omega))
        have := List.count_pos_iff.2 this
        omega
    refine ⟨?_, hfin listed a w hall hI⟩
    cases e : Region.ready .any ops listed with
    | nil => rfl
    | cons j l =>
      have hj : j ∈ Region.ready .any ops listed := by rw [e]; simp
      obtain ⟨h0, o, ho, _⟩ := mem_ready.1 hj
      have hlt : j < ops.size := (Array.getElem?_eq_some_iff.1 ho).1
      have h1 := hall j hlt
      rw [Array.getD_eq_getD_getElem?, Array.getElem?_eq_getElem (by omega)] at h0 h1
      simp at h0 h1
      rw [h0] at h1
      cases h1
  | fuel + 1, listed, a, w, hsz, hc, hI => by
    refine ⟨fun h => hfin listed a w (ready_nil hsz hord h) hI, fun i hi => ?_⟩
    obtain ⟨h0, o, ho, hall⟩ := mem_ready.1 hi
    have hlt : i < ops.size := (Array.getElem?_eq_some_iff.1 ho).1
    have hs := hstep i o listed a w ho hall hI
    unfold wpOp
    simp only [ho, hs.1, if_true]
    refine .inl (Oper.wp_mono ?_ hs.2)
    rintro a' w' ⟨v, rfl, hv, hS, hk⟩
    have hcs := count_set (listed := listed) (i := i) (by omega) h0
    refine wpAny_inv fs S V m ds hord hdst hfix hstep hfin fuel _ _ _ (by simpa using hsz) (by omega) ?_
    cases hd : o.dst with
    | none =>
      refine ⟨hI.sz, hI.df, hS, fun j oj d hj hl hjd => ?_, hI.fix, fun j oj hj hl => ?_⟩
      · rw [listed_set (by omega)] at hl
        by_cases e : j = i
        · subst e
          rw [ho] at hj
          cases hj
          rw [hd] at hjd
          cases hjd
        · rw [if_neg e] at hl
          exact hk j _ (hI.vals j oj d hj hl hjd)
      · rw [listed_set (by omega)] at hl
        by_cases e : j = i
        · subst e
          exact ⟨v, hv⟩
        · rw [if_neg e] at hl
          obtain ⟨u, hu⟩ := hI.seen j oj hj hl
          exact ⟨u, hk j u hu⟩
    | some d0 =>
      have hf := hfix i o d0 ho hd
      have hd0 : d0 < a.tmps.size := by rw [hI.sz]; exact hf.1
      refine ⟨by simp [Act.put, hI.sz], by simpa [Act.put] using hI.df, hS, fun j oj d hj hl hjd => ?_, fun t u htu => ?_, fun j oj hj hl => ?_⟩
      · rw [listed_set (by omega)] at hl
        rw [getD_put hd0]
        by_cases e : j = i
        · subst e
          rw [ho] at hj
          cases hj
          rw [hd] at hjd
          cases hjd
          rw [if_pos rfl]
          exact hv
        · rw [if_neg e] at hl
          rw [if_neg (fun h => e (hdst j i oj o d hj ho hjd (by rw [hd, h])))]
          exact hk j _ (hI.vals j oj d hj hl hjd)
      · rw [getD_put hd0, if_neg (fun h : t = d0 => hf.2 u (by rw [← h]; exact htu))]
        exact hI.fix t u htu
      · rw [listed_set (by omega)] at hl
        by_cases e : j = i
        · subst e
          exact ⟨v, hv⟩
        · rw [if_neg e] at hl
          obtain ⟨u, hu⟩ := hI.seen j oj hj hl
          exact ⟨u, hk j u hu⟩

/-- The region's own order, looked at by program. -/
def rchk (ops : Array Oper) (m : Nat) (ks : List Nat) : Bool :=
  (List.range ops.size).all fun i => match ops[i]? with
    | none => true
    | some o => (o.after.toList.all fun e => decide (e.on < i)) && (match o.dst with
      | none => true
      | some d => decide (d < m) && !ks.contains d && (List.range i).all fun j => match ops[j]? with
        | none => true
        | some oj => !(oj.dst == some d))
theorem rchk_at {ops : Array Oper} {m : Nat} {ks : List Nat} (h : rchk ops m ks = true) {i : Nat} {o : Oper} (hi : ops[i]? = some o) :
    (∀ e ∈ o.after, e.on < i) ∧ ∀ d, o.dst = some d → d < m ∧ d ∉ ks ∧ ∀ j oj, j < i → ops[j]? = some oj → oj.dst ≠ some d := by
  have hlt : i < ops.size := (Array.getElem?_eq_some_iff.1 hi).1
  unfold rchk at h
  rw [List.all_eq_true] at h
  have h1 := h i (List.mem_range.2 hlt)
  simp only [hi, Bool.and_eq_true] at h1
  obtain ⟨ha, hb⟩ := h1
  refine ⟨fun e he => ?_, fun d hd => ?_⟩
  · rw [List.all_eq_true] at ha
    exact of_decide_eq_true (ha e (Array.mem_toList_iff.2 he))
  · simp only [hd, Bool.and_eq_true] at hb
    obtain ⟨⟨h2, h3⟩, h4⟩ := hb
    refine ⟨of_decide_eq_true h2, by simpa using h3, fun j oj hj hoj e => ?_⟩
    rw [List.all_eq_true] at h4
    have h5 := h4 j (List.mem_range.2 hj)
    simp only [hoj, e] at h5
    simp at h5
theorem wpAny_invB {P : Program} {ops : Array Oper} {Q : Exit → Act → World → Prop} (fs : List (Nat × Value)) (S : World → Prop) (V : Nat → Value → World → Prop) (m : Nat) (ds : List Deferred)
    (hB : rchk ops m (fs.map (·.1)) = true)
    (hstep : ∀ (i : Nat) (o : Oper) (listed : Array Bool) (a : Act) (w : World), ops[i]? = some o → (∀ e ∈ o.after, Region.binds .any e = true → listed.getD e.on false = true) → RInv ops fs S V m ds listed a w →
      Region.wanted o (yielded ops a.tmps) = true ∧ o.wp P a w (fun a' w' => ∃ v, a' = a.put o.dst v ∧ V i v w' ∧ S w' ∧ ∀ j u, V j u w → V j u w') Q)
    (hfin : ∀ listed a w, (∀ i, i < ops.size → listed.getD i false = true) → RInv ops fs S V m ds listed a w → Q .normal a w)
    (a : Act) (w : World) (hsz : a.tmps.size = m) (hdf : a.defers = ds) (hS : S w) (hf : ∀ t v, (t, v) ∈ fs → a.tmps.getD t undef = v) : wpAny P .any ops Q ops.size (Array.replicate ops.size false) a w := by
  refine wpAny_inv fs S V m ds (fun i o hi => (rchk_at hB hi).1) (fun i j oi oj d hi hj h1 h2 => ?_) (fun i o d hi hd => ?_) hstep hfin _ _ _ _ (by simp) ?_ ⟨hsz, hdf, hS, fun i o d _ hl _ => ?_, hf, fun i o _ hl => ?_⟩
  · rcases Nat.lt_trichotomy i j with h | h | h
    · exact absurd h1 (((rchk_at hB hj).2 d h2).2.2 i oi h hi)
    · exact h
    · exact absurd h2 (((rchk_at hB hi).2 d h1).2.2 j oj h hj)
  · have := (rchk_at hB hi).2 d hd
    exact ⟨this.1, fun v hv => this.2.1 (List.mem_map.2 ⟨_, hv, rfl⟩)⟩
  · rw [Array.toList_replicate, List.count_replicate]; simp
  · simp [Array.getD_eq_getD_getElem?, Array.getElem?_replicate] at hl
    split at hl <;> simp at hl
  · simp [Array.getD_eq_getD_getElem?, Array.getElem?_replicate] at hl
    split at hl <;> simp at hl
/-- The value of one that came up. -/
theorem RInv.at {ops : Array Oper} {fs : List (Nat × Value)} {S : World → Prop} {V : Nat → Value → World → Prop} {m : Nat} {ds : List Deferred} {listed : Array Bool} {a : Act} {w : World} {o oj : Oper} (h : RInv ops fs S V m ds listed a w)
    (hall : ∀ e ∈ o.after, Region.binds .any e = true → listed.getD e.on false = true) (j d : Nat) (hj : ops[j]? = some oj) (hd : oj.dst = some d) (ha : (o.after.toList.any fun e => e.on == j && Region.binds .any e) = true) : V j (a.tmps.getD d undef) w := by
  rw [List.any_eq_true] at ha
  obtain ⟨e, he, h2⟩ := ha
  rw [Bool.and_eq_true] at h2
  have h3 : e.on = j := by simpa using h2.1
  have h4 := hall e (Array.mem_toList_iff.1 he) h2.2
  rw [h3] at h4
  exact h.vals j oj d hj h4 hd
end Go.Proofs.YtplieplmhdfndaaGreatDoor

namespace Go.Proofs.YtplieplmhdfndaaGreatDoor
set_option linter.unusedVariables false
set_option linter.unusedSimpArgs false
open Go.RowKit

theorem wp_convert_sb {P : Program} {o : Oper} {a : Act} {w : World} {K : Act → World → Prop} {Q : Exit → Act → World → Prop} (src dst e : TypeId) (x : Operand) (ho : o.op = .convert src dst x) (s : ByteArray) (hx : a.eval x = .string s)
    (hs : P.underlying src = some .string) (hd : P.underlying dst = some (.slice e)) (he : P.underlying e = some (.int .u8))
    (h : K (a.put o.dst (.slice (some ⟨w.heap.size, 0, none⟩) s.size (grownCap w s.size 0 e))) (Go.Lib.bytesWorld w e s)) : o.wp P a w K Q := by
  unfold Oper.wp execOp
  simp only [ho, hx, Sem.run_bind, Sem.run_pure, Result.andThen_ok, Go.Lib.run_convert_string_bytes w src dst e s hs hd he]
  exact h
theorem rd_bytesWorld (w : World) (s : ByteArray) (hs : s.size ≤ maxLen) : Rd .u8 (Go.Lib.bytesWorld w 5 s) (.slice (some ⟨w.heap.size, 0, none⟩) s.size (grownCap w s.size 0 5)) (strInts s) := by
  refine ⟨some ⟨w.heap.size, 0, none⟩, grownCap w s.size 0 5, by rw [strInts_len], by rw [strInts_len]; exact hs, fun _ => ⟨w.heap.size, 0, rfl, by rw [Go.Lib.bytesWorld_size]; omega, fun i hi => ?_⟩, by rw [strInts_len]; exact grownCap_ge _ _ _ _, grownCap_le_maxLen _ _ _ _ hs⟩
  rw [strInts_len] at hi
  rw [Nat.zero_add, Go.Lib.bytesWorld_cell w _ s i hi]
  unfold strInts
  have hl : i < s.data.size := hi
  simp only [List.getD_eq_getElem?_getD, List.getElem?_map, Array.getElem?_toList, Array.getElem?_eq_getElem hl, Option.map_some, Option.getD_some]
theorem fill_pos (v : Value) (zs : List Int) (n : Nat) (w : World) (h : Rd .u8 w v zs) (h0 : 0 < zs.length) (h1 : zs.length ≤ n) (h2 : n ≤ 100000) :
    Calls Tryz.prog 131 #[v, .int .i64 n] w fun e w' => ∃ g cp, e = .returned (.slice (some ⟨g, 0, none⟩) n cp) ∧ w'.ownsRow w.heap.size 5 1 (.slice (some ⟨g, 0, none⟩) n cp) n ((zs ++ List.replicate (n - zs.length) 0).map (Value.int .u8)) ∧ Below w.heap.size w w' := by
  refine (fill_any v zs n w h h0 h1 h2).mono ?_
  rintro e w' ⟨v', rfl, ho, hb⟩
  rcases ho.2 with ⟨rfl, hn0⟩ | ⟨g, cap, cur, rfl, _⟩
  · omega
  · exact ⟨g, cap, rfl, ho, hb⟩
/-- A slice of n bytes with an address, that reads so. -/
def Sl (n : Nat) (lst : List Int) (v : Value) (w : World) : Prop := (∃ g cp, v = .slice (some ⟨g, 0, none⟩) n cp) ∧ Rd .u8 w v lst
theorem Sl.below {n : Nat} {lst : List Int} {v : Value} {w w' : World} (h : Sl n lst v w) (hb : Below w.heap.size w w') : Sl n lst v w' := ⟨h.1, h.2.below hb⟩
/-- What the values of the region that lays the first part are. -/
def VS (B b : Nat) (A : Nat) (nm : ByteArray) (i : Nat) (v : Value) (w : World) : Prop := match i with
  | 0 => ∃ g, v = .slice (some ⟨g, 0, none⟩) 8 8 ∧ B ≤ g ∧ g < w.heap.size ∧ Rd .u8 w v snapLet ∧ ∃ fr, w.heap[g]? = some (.cells #[.int .u8 115, .int .u8 110, .int .u8 97, .int .u8 112, .int .u8 115, .int .u8 104, .int .u8 111, .int .u8 116] 5 fr)
  | 1 => Sl 8 snapLet v w
  | 2 => v = .pointer (some ⟨b, 0, none⟩)
  | 3 => v = .int .i64 (A : Int)
  | 4 => Sl 1 (le 1 A) v w
  | 5 => v = .pointer (some ⟨b, 1, none⟩)
  | 6 => v = .string nm
  | 7 => v = .int .i64 (nm.size : Int)
  | 8 => Sl 1 (le 1 nm.size) v w
  | 9 => v = .pointer (some ⟨b, 1, none⟩)
  | 10 => v = .string nm
  | 11 => Rd .u8 w v (strInts nm)
  | 12 => Sl 26 (strInts nm ++ List.replicate (26 - (strInts nm).length) 0) v w
  | 13 => Sl 4 (le 4 0) v w
  | 14 => ∃ g, v = .slice (some ⟨g, 0, none⟩) 5 5 ∧ g < w.heap.size ∧ ∃ vs, (∀ j u, vs[j]? = some u → w.cell? ⟨g, j, none⟩ = some u) ∧ AllRd w vs [snapLet, le 1 A, le 1 nm.size, strInts nm ++ List.replicate (26 - (strInts nm).length) 0, le 4 0]
  | 15 => Rd .u8 w v ([snapLet, le 1 A, le 1 nm.size, strInts nm ++ List.replicate (26 - (strInts nm).length) 0, le 4 0] : List (List Int)).flatten
  | 16 => Rd .u8 w v ([snapLet, le 1 A, le 1 nm.size, strInts nm ++ List.replicate (26 - (strInts nm).length) 0, le 4 0] : List (List Int)).flatten
  | _ => False
theorem VS.below {B b A : Nat} {nm : ByteArray} {w w' : World} (hb : Below w.heap.size w w') : ∀ (j : Nat) (u : Value), VS B b A nm j u w → VS B b A nm j u w'
  | 0, _, ⟨g, h1, h2, h3, h4, h5⟩ => ⟨g, h1, h2, Nat.lt_of_lt_of_le h3 hb.size, h4.below hb, by rw [hb.block g h3]; exact h5⟩
  | 1, _, h => Sl.below h hb
  | 2, _, h => h
  | 3, _, h => h
  | 4, _, h => Sl.below h hb
  | 5, _, h => h
  | 6, _, h => h
  | 7, _, h => h
  | 8, _, h => Sl.below h hb
  | 9, _, h => h
  | 10, _, h => h
  | 11, _, h => Rd.below h hb
  | 12, _, h => Sl.below h hb
  | 13, _, h => Sl.below h hb
  | 14, _, ⟨g, h1, h2, vs, h3, h4⟩ => ⟨g, h1, Nat.lt_of_lt_of_le h2 hb.size, vs, fun j u hu => (hb.cell (p := ⟨g, j, none⟩) h2).trans (h3 j u hu), h4.below hb⟩
  | 15, _, h => Rd.below h hb
  | 16, _, h => Rd.below h hb
  | _ + 17, _, h => h
/-- The values of the second region. -/
def VT (B b : Nat) (J : List Int) (a : Nat) (nm : ByteArray) (x y : Nat) (s : Int) (ds : List Int) (p q : Int) (x4 : Value) (i : Nat) (v : Value) (w : World) : Prop := match i with
  | 0 => v = x4
  | 1 => v = .pointer (some ⟨b, 2, none⟩)
  | 2 => v = .int .i64 (x : Int)
  | 3 => Sl 8 (le 8 x) v w
  | 4 => v = .pointer (some ⟨b, 3, none⟩)
  | 5 => v = .int .i64 (y : Int)
  | 6 => Sl 8 (le 8 y) v w
  | 7 => v = .pointer (some ⟨b, 4, none⟩)
  | 8 => v = .agg (cellsI (rootI s ds p q))
  | 9 => Sl 64 (bytesR s ds p q) v w
  | 10 => ∃ g, v = .slice (some ⟨g, 0, none⟩) 4 4 ∧ g < w.heap.size ∧ ∃ vs, (∀ j u, vs[j]? = some u → w.cell? ⟨g, j, none⟩ = some u) ∧ AllRd w vs [J, le 8 x, le 8 y, bytesR s ds p q]
  | 11 => Rd .u8 w v ([J, le 8 x, le 8 y, bytesR s ds p q] : List (List Int)).flatten
  | 12 => w.ownsRow B 5 1 v 512 ((sealed (bytesS a nm x y s ds p q)).map (Value.int .u8))
  | 13 => w.ownsRow B 5 1 v 512 ((sealed (bytesS a nm x y s ds p q)).map (Value.int .u8))
  | 14 => v = .int .i64 0
  | _ => False
theorem VT.below {B b : Nat} {J : List Int} {a : Nat} {nm : ByteArray} {x y : Nat} {s : Int} {ds : List Int} {p q : Int} {x4 : Value} {w w' : World} (hb : Below w.heap.size w w') : ∀ (j : Nat) (u : Value), VT B b J a nm x y s ds p q x4 j u w → VT B b J a nm x y s ds p q x4 j u w'
  | 0, _, h => h
  | 1, _, h => h
  | 2, _, h => h
  | 3, _, h => Sl.below h hb
  | 4, _, h => h
  | 5, _, h => h
  | 6, _, h => Sl.below h hb
  | 7, _, h => h
  | 8, _, h => h
  | 9, _, h => Sl.below h hb
  | 10, _, ⟨g, h1, h2, vs, h3, h4⟩ => ⟨g, h1, Nat.lt_of_lt_of_le h2 hb.size, vs, fun j u hu => (hb.cell (p := ⟨g, j, none⟩) h2).trans (h3 j u hu), h4.below hb⟩
  | 11, _, h => Rd.below h hb
  | 12, _, h => own_below h hb
  | 13, _, h => own_below h hb
  | 14, _, h => h
  | _ + 15, _, h => h

end Go.Proofs.YtplieplmhdfndaaGreatDoor
