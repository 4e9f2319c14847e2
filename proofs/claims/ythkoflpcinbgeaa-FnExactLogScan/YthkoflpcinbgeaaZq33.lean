/- What the program's reading of a record tells. -/
import Derived.Test.YthkoflpcinbgeaaZq32
namespace Go.Proofs.Ythkoflpcinbgeaa
set_option linter.unusedVariables false
set_option linter.unusedSimpArgs false
open Go.RowKit

/-- A record was read at pos, up to p'; or there is none. -/
def RL (zs : List Int) (pos : Nat) (e : EntL) (ok' : Bool) (p' : Nat) : Prop :=
  (ok' = true ∧ e.ok ∧ zs.drop pos = e.raw ++ zs.drop p' ∧ p' = pos + e.raw.length ∧ p' ≤ zs.length) ∨ (ok' = false ∧ ∀ (f : EntL) (r : List Int), f.ok → zs.drop pos ≠ f.raw ++ r)
theorem rl_math {zs : List Int} (hbd : ∀ z ∈ zs, 0 ≤ z ∧ z < 256) {pos x m s : Nat} {hs ts : List Int} {ok3 : Bool} {p3 : Nat} {RF : Bool}
    (hA : AdvO zs (pos + 16 + m) ok3 p3) (hx : pos + 8 ≤ zs.length → x = unle ((zs.drop pos).take 8)) (hm : pos + 12 ≤ zs.length → m = unle ((zs.drop (pos + 8)).take 4)) (hs0 : pos + 16 ≤ zs.length → s = unle ((zs.drop (pos + 12)).take 4))
    (hh : pos + 12 ≤ zs.length → hs = (zs.drop pos).take 12) (ht : pos + 16 + m ≤ zs.length → ts = (zs.drop (pos + 16)).take m)
    {K A B U G : Int} {p q : ByteArray} {ds : List Int} (hR1 : RF = true → IsDec ts K A B U G p q ds 0) (hR0 : RF = false → IsDec ts 0 0 0 0 0 ⟨#[]⟩ ⟨#[]⟩ [] 21) :
    RL zs pos ⟨x, K, A, B, U, G, p, q, ds⟩ (ok3 && decide ((s : Int) = ((Crc.crc (hs ++ ts) : Nat) : Int)) && wi (wrap64 (x : Int)) 1 1099511627776 && RF) p3 := by
  have bd' : ∀ z ∈ zs.drop pos, 0 ≤ z ∧ z < 256 := fun z hz => hbd z (List.mem_of_mem_drop hz)
  have e8 : (zs.drop pos).drop 8 = zs.drop (pos + 8) := List.drop_drop
  have e12 : (zs.drop pos).drop 12 = zs.drop (pos + 12) := List.drop_drop
  have e16 : (zs.drop pos).drop 16 = zs.drop (pos + 16) := List.drop_drop
  have eln : (zs.drop pos).length = zs.length - pos := List.length_drop
  -- what a record would have to be
  have back : ∀ (f : EntL) (r : List Int), f.ok → zs.drop pos = f.raw ++ r → pos + 16 + m ≤ zs.length ∧ x = f.n ∧ m = f.body.length ∧ s = sumO f.n f.body ∧ ts = f.body ∧ hs = headO f.n f.body.length := fun f r hf hz => by
    obtain ⟨a1, a2, a3, a4, a5, a6, a7⟩ := ent_back hf hz bd'
    rw [eln] at a1
    have hx' := hx (by omega)
    have hm' := hm (by omega)
    have hs' := hs0 (by omega)
    rw [a2] at hx'
    rw [← e8, a3] at hm'
    rw [← e12, a4] at hs'
    have hle : pos + 16 + m ≤ zs.length := by omega
    have ht' := ht hle
    rw [hm', ← e16, a5] at ht'
    refine ⟨hle, hx', hm', hs', ht', ?_⟩
    rw [hh (by omega), hz]
    unfold EntL.raw recO
    rw [List.append_assoc, ← headO_len f.n f.body.length, List.take_left]
  by_cases hle : pos + 16 + m ≤ zs.length
  · have hok := hA.1.2 hle
    have hp3 := hA.2 hok
    subst hok
    rw [Bool.true_and]
    by_cases hall : (decide ((s : Int) = ((Crc.crc (hs ++ ts) : Nat) : Int)) && wi (wrap64 (x : Int)) 1 1099511627776 && RF) = true
    · rw [hall]
      simp only [Bool.and_eq_true, decide_eq_true_eq] at hall
      obtain ⟨⟨h1, h2⟩, h3⟩ := hall
      have hx' := hx (by omega)
      have hxlt : x < 18446744073709551616 := by
        rw [hx']
        have := unle_lt ((zs.drop pos).take 8) (fun z hz => bd' z (List.mem_of_mem_take hz))
        rw [List.length_take, eln, show min 8 (zs.length - pos) = 8 from by omega] at this
        omega
      have hr : 1 ≤ x ∧ x ≤ 1099511627776 := by
        unfold wi wrap64 at h2
        simp at h2
        omega
      have ht' := ht hle
      have hm' := hm (by omega)
      have hs' := hs0 (by omega)
      have hh' : hs = headO x ts.length := by
        rw [hh (by omega)]
        have g0 := leAt bd' 0 8 x (by rw [eln]; omega) (by simpa using hx')
        have g1 := leAt bd' 8 4 m (by rw [eln]; omega) (by rw [e8]; exact hm')
        have hl : ts.length = m := by rw [ht', List.length_take, List.length_drop]; omega
        unfold headO
        rw [hl, ← g0, ← g1]
        rw [show (12 : Nat) = 8 + 4 from rfl, List.take_add]
        simp
      have hsum : unle (((zs.drop pos).drop 12).take 4) = sumO x (((zs.drop pos).drop 16).take m) := by
        rw [e12, e16, ← hs', ← ht']
        unfold sumO
        rw [← hh']
        omega
      obtain ⟨k1, k2, k3⟩ := ent_of bd' (n := x) (m := m) (by rw [eln]; omega) hx' (by rw [e8]; exact hm') hr.1 hr.2 (K := K) (A := A) (B := B) (U := U) (G := G) (p := p) (q := q) (ds := ds) (by rw [e16, ← ht']; exact hR1 h3) hsum
      have hrl : (⟨x, K, A, B, U, G, p, q, ds⟩ : EntL).raw.length = 16 + m := by unfold EntL.raw; rw [recO_len, k3]
      refine .inl ⟨rfl, k1, ?_, by rw [hrl, hp3]; omega, by omega⟩
      rw [List.drop_drop] at k2
      rw [hp3, show pos + 16 + m = pos + (16 + m) from by omega]
      exact k2
    · have hf : (decide ((s : Int) = ((Crc.crc (hs ++ ts) : Nat) : Int)) && wi (wrap64 (x : Int)) 1 1099511627776 && RF) = false := by simpa using hall
      rw [hf]
      refine .inr ⟨rfl, fun f r hfo hz => hall ?_⟩
      obtain ⟨b1, b2, b3, b4, b5, b6⟩ := back f r hfo hz
      simp only [Bool.and_eq_true, decide_eq_true_eq]
      refine ⟨⟨?_, ?_⟩, ?_⟩
      · rw [b4, b5, b6]
        rfl
      · have := hfo.1
        unfold wi wrap64
        simp
        omega
      · cases hRF : RF with
        | true => rfl
        | false =>
          have hd := hR0 hRF
          have := (dec_isOp hd).2 (by rw [b5]; exact (EntL.isRec hfo r).2.2.1)
          omega
  · have hok : ok3 = false := by
      cases h3 : ok3 with
      | false => rfl
      | true => exact absurd (hA.1.1 h3) hle
    subst hok
    rw [Bool.false_and, Bool.false_and, Bool.false_and]
    exact .inr ⟨rfl, fun f r hfo hz => hle (back f r hfo hz).1⟩

/-- The cells of what is read: the entry and its bytes. -/
def logC (n K A B U G : Int) (p q : ByteArray) (d r : Value) : Array Value := #[.int .i64 n, .int .i64 K, .int .i64 A, .int .i64 B, .int .i64 U, .int .i64 G, .string p, .string q, d, r]
def noL : Array Value := logC 0 0 0 0 0 0 ⟨#[]⟩ ⟨#[]⟩ (.slice none 0 0) (.slice none 0 0)
theorem grown_new {w A B : World} {b g : Nat} (h : w.grownBy A (some b)) (k : A.grownBy B (some g)) (hg : w.heap.size ≤ g) : w.grownBy B (some b) :=
  ⟨k.os.trans h.os, k.tape.trans h.tape, k.output.trans h.output, Nat.le_trans h.size k.size, fun i hi hne => (k.block i (by have := h.size; omega) (fun e => by injection e with e; omega)).trans (h.block i hi hne)⟩
theorem grown_below {w A B : World} {b : Nat} (h : w.grownBy A (some b)) (k : Below A.heap.size A B) : w.grownBy B (some b) :=
  ⟨k.os.trans h.os, k.tape.trans h.tape, k.output.trans h.output, Nat.le_trans h.size k.size, fun i hi hne => (k.block i (by have := h.size; omega)).trans (h.block i hi hne)⟩
theorem grown_cell (W : World) (g k : Nat) (x : Value) : W.grownBy (W.setCell ⟨g, k, none⟩ x) (some g) :=
  ⟨rfl, rfl, rfl, by simp [World.setCell], fun j hj hne => Below.heap_setCell W ⟨g, k, none⟩ x j (fun e => hne (by rw [e]))⟩
theorem AdvO.numM {okr : Bool} {zs : List Int} {m pr : Nat} {w0 w w' : World} {b lo : Nat} {dv : Value} {m' x : Nat} (h : AdvO zs m okr pr) (hn : Numd w0 w w' b lo okr dv zs pr m' x) :
    ∃ ok2 p2, Rdr w0 w' b lo ok2 dv zs p2 ∧ AdvO zs (m + m') ok2 p2 ∧ (ok2 = true → x = unle ((zs.drop m).take m')) ∧ w.grownBy w' (some b) ∧ pr ≤ p2 ∧ (okr = false → ok2 = false) := by
  obtain ⟨hg, hn⟩ := hn
  obtain ⟨h2, h3⟩ := h
  rcases hn with ⟨ho, hle, hx, hr⟩ | ⟨hno, hx, hr⟩
  · have hpm := h3 ho
    subst hpm
    exact ⟨true, _, hr, ⟨⟨fun _ => hle, fun _ => rfl⟩, fun _ => rfl⟩, fun _ => hx, hg, by omega, fun h => by rw [ho] at h; cases h⟩
  · refine ⟨false, _, hr, ⟨⟨(fun h => absurd h (by decide)), fun h => ?_⟩, (fun h => absurd h (by decide))⟩, (fun h => absurd h (by decide)), hg, by omega, fun _ => rfl⟩
    have ho := h2.2 (by omega)
    have hpm := h3 ho
    exact absurd ⟨ho, by omega⟩ hno
theorem AdvO.tookM {okr : Bool} {zs : List Int} {m pr : Nat} {w0 w w' : World} {b lo : Nat} {dv sv : Value} {n : Nat} (h : AdvO zs m okr pr) (hn : Took w0 w w' b lo okr dv zs pr n sv) :
    ∃ ok2 p2 ts, Rdr w0 w' b lo ok2 dv zs p2 ∧ AdvO zs (m + n) ok2 p2 ∧ Rd .u8 w0 sv ts ∧ ts.length ≤ n ∧ (ok2 = true → ts = (zs.drop m).take n) ∧ w.grownBy w' (some b) ∧ ts.length ≤ zs.length ∧ pr ≤ p2 ∧ ((∀ z ∈ zs, 0 ≤ z ∧ z < 256) → ∀ z ∈ ts, 0 ≤ z ∧ z < 256) := by
  obtain ⟨hg, hn⟩ := hn
  obtain ⟨h2, h3⟩ := h
  rcases hn with ⟨ho, _, hle, hrd, hr⟩ | ⟨hno, rfl, hr⟩
  · have hpm := h3 ho
    subst hpm
    rw [Int.toNat_natCast] at hrd hr
    exact ⟨true, _, _, hr, ⟨⟨fun _ => by omega, fun _ => rfl⟩, fun _ => rfl⟩, hrd, by rw [List.length_take]; omega, fun _ => rfl, hg, by rw [List.length_take, List.length_drop]; omega, by omega, fun hb z hz => hb z (List.mem_of_mem_drop (List.mem_of_mem_take hz))⟩
  · refine ⟨false, _, [], hr, ⟨⟨(fun h => absurd h (by decide)), fun h => ?_⟩, (fun h => absurd h (by decide))⟩, ⟨none, 0, rfl, by simp, fun h => absurd rfl h, by simp, by simp⟩, by simp, (fun h => absurd h (by decide)), hg, by simp, by omega, fun _ z hz => by simp at hz⟩
    have ho := h2.2 (by omega)
    have hpm := h3 ho
    exact absurd ⟨ho, by omega, by omega⟩ hno
/-- The reading of a record so far, in a call that began in w. -/
structure Rl (W1 w wr : World) (b lo : Nat) (dv : Value) (zs : List Int) (C : Array Value) (okr : Bool) (pr : Nat) : Prop where
  rdr : Rdr W1 wr b lo okr dv zs pr
  res : Blk wr w.heap.size noL 42
  blk : Blk wr (w.heap.size + 1) C 42
  lt : b < w.heap.size
  far : w.heap.size + 1 < lo
  gr : w.grownBy wr (some b)
theorem Rl.onward {W1 w wr w' : World} {b lo : Nat} {dv : Value} {zs : List Int} {C : Array Value} {okr ok2 : Bool} {pr p2 : Nat} (h : Rl W1 w wr b lo dv zs C okr pr) (hr : Rdr W1 w' b lo ok2 dv zs p2) (hgr : wr.grownBy w' (some b)) : Rl W1 w w' b lo dv zs C ok2 p2 :=
  ⟨hr, (hgr.block _ h.res.lt (by have := h.lt; simp; omega)).trans h.res, (hgr.block _ h.blk.lt (by have := h.lt; simp; omega)).trans h.blk, h.lt, h.far, grownBy_trans h.gr hgr⟩
theorem Rl.under {W1 w wr w' : World} {b lo : Nat} {dv : Value} {zs : List Int} {C : Array Value} {okr : Bool} {pr : Nat} (h : Rl W1 w wr b lo dv zs C okr pr) (hb : Below wr.heap.size wr w') : Rl W1 w w' b lo dv zs C okr pr :=
  ⟨h.rdr.below hb, h.res.below hb h.res.lt, h.blk.below hb h.blk.lt, h.lt, h.far, grown_below h.gr hb⟩
theorem Rl.tch {W1 w wr w' : World} {b lo : Nat} {dv : Value} {zs : List Int} {C : Array Value} {okr ok2 : Bool} {pr : Nat} (h : Rl W1 w wr b lo dv zs C okr pr) (hc : Ck w' b lo 21 ok2) (ht : Tch b wr w') : Rl W1 w w' b lo dv zs C ok2 pr :=
  h.onward (h.rdr.tch hc ht) ht.1
theorem Rl.put {W1 w wr : World} {b lo : Nat} {dv : Value} {zs : List Int} {C : Array Value} {okr : Bool} {pr : Nat} (h : Rl W1 w wr b lo dv zs C okr pr) (k : Nat) (x : Value) : Rl W1 w (wr.setCell ⟨w.heap.size + 1, k, none⟩ x) b lo dv zs (C.setIfInBounds k x) okr pr :=
  ⟨h.rdr.aside (grown_cell _ _ _ _) (by have := h.lt; omega) h.far, h.res.other _ _ (by simp), h.blk.set k x, h.lt, h.far, grown_new h.gr (grown_cell _ _ _ _) (by omega)⟩
theorem Rl.putOp {W1 w wr : World} {b lo : Nat} {dv : Value} {zs : List Int} {okr : Bool} {pr : Nat} {X : Int} (h : Rl W1 w wr b lo dv zs (logC X 0 0 0 0 0 ⟨#[]⟩ ⟨#[]⟩ (.slice none 0 0) (.slice none 0 0)) okr pr) (K A B U G : Int) (p q : ByteArray) (d : Value) : Rl W1 w (wr.setCells (w.heap.size + 1) 1 (opC K A B U G p q d).toList) b lo dv zs (logC X K A B U G p q d (.slice none 0 0)) okr pr := by
  have e : wr.setCells (w.heap.size + 1) 1 (opC K A B U G p q d).toList = ((((((((wr.setCell ⟨w.heap.size + 1, 1, none⟩ (.int .i64 K)).setCell ⟨w.heap.size + 1, 2, none⟩ (.int .i64 A)).setCell ⟨w.heap.size + 1, 3, none⟩ (.int .i64 B)).setCell ⟨w.heap.size + 1, 4, none⟩ (.int .i64 U)).setCell ⟨w.heap.size + 1, 5, none⟩ (.int .i64 G)).setCell ⟨w.heap.size + 1, 6, none⟩ (.string p)).setCell ⟨w.heap.size + 1, 7, none⟩ (.string q)).setCell ⟨w.heap.size + 1, 8, none⟩ d) := rfl
  rw [e]
  clear e
  have h1 := h.put 1 (.int .i64 K)
  have e1 : (logC X 0 0 0 0 0 ⟨#[]⟩ ⟨#[]⟩ (.slice none 0 0) (.slice none 0 0)).setIfInBounds 1 (.int .i64 K) = logC X K 0 0 0 0 ⟨#[]⟩ ⟨#[]⟩ (.slice none 0 0) (.slice none 0 0) := rfl
  rw [e1] at h1
  have h2 := h1.put 2 (.int .i64 A)
  have e2 : (logC X K 0 0 0 0 ⟨#[]⟩ ⟨#[]⟩ (.slice none 0 0) (.slice none 0 0)).setIfInBounds 2 (.int .i64 A) = logC X K A 0 0 0 ⟨#[]⟩ ⟨#[]⟩ (.slice none 0 0) (.slice none 0 0) := rfl
  rw [e2] at h2
  have h3 := h2.put 3 (.int .i64 B)
  have e3 : (logC X K A 0 0 0 ⟨#[]⟩ ⟨#[]⟩ (.slice none 0 0) (.slice none 0 0)).setIfInBounds 3 (.int .i64 B) = logC X K A B 0 0 ⟨#[]⟩ ⟨#[]⟩ (.slice none 0 0) (.slice none 0 0) := rfl
  rw [e3] at h3
  have h4 := h3.put 4 (.int .i64 U)
  have e4 : (logC X K A B 0 0 ⟨#[]⟩ ⟨#[]⟩ (.slice none 0 0) (.slice none 0 0)).setIfInBounds 4 (.int .i64 U) = logC X K A B U 0 ⟨#[]⟩ ⟨#[]⟩ (.slice none 0 0) (.slice none 0 0) := rfl
  rw [e4] at h4
  have h5 := h4.put 5 (.int .i64 G)
  have e5 : (logC X K A B U 0 ⟨#[]⟩ ⟨#[]⟩ (.slice none 0 0) (.slice none 0 0)).setIfInBounds 5 (.int .i64 G) = logC X K A B U G ⟨#[]⟩ ⟨#[]⟩ (.slice none 0 0) (.slice none 0 0) := rfl
  rw [e5] at h5
  have h6 := h5.put 6 (.string p)
  have e6 : (logC X K A B U G ⟨#[]⟩ ⟨#[]⟩ (.slice none 0 0) (.slice none 0 0)).setIfInBounds 6 (.string p) = logC X K A B U G p ⟨#[]⟩ (.slice none 0 0) (.slice none 0 0) := rfl
  rw [e6] at h6
  have h7 := h6.put 7 (.string q)
  have e7 : (logC X K A B U G p ⟨#[]⟩ (.slice none 0 0) (.slice none 0 0)).setIfInBounds 7 (.string q) = logC X K A B U G p q (.slice none 0 0) (.slice none 0 0) := rfl
  rw [e7] at h7
  have h8 := h7.put 8 d
  have e8 : (logC X K A B U G p q (.slice none 0 0) (.slice none 0 0)).setIfInBounds 8 d = logC X K A B U G p q d (.slice none 0 0) := rfl
  rw [e8] at h8
  exact h8
theorem cells_grownL {b : Nat} : ∀ (vs : List Value) (w : World) (o : Nat), w.grownBy (w.setCells b o vs) (some b)
  | [], w, o => World.grownBy.refl _ _
  | v :: vs, w, o => grownBy_trans (grown_cell w b o v) (cells_grownL vs _ _)
theorem drew_cell {W : World} {a : Addr} {v : Value} (h : W.cell? a = some v) : W.drew.cell? a = some v := (((Below.refl W.heap.size W).drew).cell (p := a) (cell_lt h)).trans h
theorem setRow_grownL (W : World) (g : Nat) (cs : Array Value) : W.grownBy (W.setRow g cs) (some g) :=
  ⟨rfl, rfl, rfl, by simp [World.setRow], fun k hk hne => setRow_block W g cs k (fun e => hne (by rw [e]))⟩
theorem infoLg : (Try.prog.info? 42).map (·.size) = some 10 := by kernel_rfl
theorem logC_one (n K A B U G : Int) (p q : ByteArray) (a : Option Addr) (m c : Nat) (a' : Option Addr) (m' c' : Nat) : (logC n K A B U G p q (.slice a m c) (.slice a' m' c')).all (·.oneCell') = true := by
  unfold logC
  rw [Array.all_eq_true_iff_forall_mem]
  intro v hv
  simp only [List.mem_toArray, List.mem_cons, List.not_mem_nil, or_false] at hv
  rcases hv with rfl | rfl | rfl | rfl | rfl | rfl | rfl | rfl | rfl | rfl <;> rfl
theorem own_shapeL {w : World} {base : Nat} {e : TypeId} {sz : Nat} {v : Value} {n : Nat} {xs : List Value} (h : w.ownsRow base e sz v n xs) : ∃ a cap, v = .slice a n cap := by
  rcases h.2 with ⟨rfl, rfl⟩ | ⟨g, cap, _, rfl, _⟩
  · exact ⟨_, _, rfl⟩
  · exact ⟨_, _, rfl⟩
end Go.Proofs.Ythkoflpcinbgeaa
