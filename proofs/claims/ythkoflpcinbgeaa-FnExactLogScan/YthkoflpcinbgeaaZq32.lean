/- Mathematics of a log: the entries that its records tell, one after the other, and that there is but one list of them. The program reads a record of a log: small notions, the sum of a record. -/
import Derived.Test.YthkoflpcinbgeaaZq31
namespace Go.Proofs.Ythkoflpcinbgeaa
set_option linter.unusedVariables false
set_option linter.unusedSimpArgs false
open Go.RowKit

/-- An entry: its number, and the fields of its operation. -/
structure EntL where
  n : Nat
  K : Int
  A : Int
  B : Int
  U : Int
  G : Int
  p : ByteArray
  q : ByteArray
  ds : List Int
/-- The bytes of its operation; its record; whether it may lie in a log. -/
def EntL.body (e : EntL) : List Int := bytesO e.K.toNat e.A e.B e.U.toNat e.G.toNat e.p e.q e.ds
def EntL.raw (e : EntL) : List Int := recO e.n e.body
def EntL.ok (e : EntL) : Prop := (1 ≤ e.n ∧ e.n ≤ 1099511627776) ∧ rightO e.K e.U e.G e.p e.q e.ds.length = true ∧ In64 e.A ∧ In64 e.B
theorem EntL.body_len (e : EntL) : e.body.length = 29 + e.p.size + e.q.size + e.ds.length := bytesO_len _ _ _ _ _ _ _ _
theorem EntL.raw_len (e : EntL) : e.raw.length = 45 + e.p.size + e.q.size + e.ds.length := by unfold EntL.raw; rw [recO_len, e.body_len]; omega
theorem EntL.isRec {e : EntL} (h : e.ok) (r : List Int) : IsRec (e.raw ++ r) e.n e.body r := ⟨h.1.1, h.1.2, ⟨e.K, e.A, e.B, e.U, e.G, e.p, e.q, e.ds, h.2.1, h.2.2.1, h.2.2.2, rfl⟩, rfl⟩
theorem ent_one {e e' : EntL} {r r' : List Int} (h : e.ok) (h' : e'.ok) (hz : e.raw ++ r = e'.raw ++ r') (hb : ∀ z ∈ e.raw ++ r, 0 ≤ z ∧ z < 256) : e = e' ∧ r = r' := by
  obtain ⟨h1, h2, h3⟩ := (EntL.isRec h r).one (by rw [hz]; exact EntL.isRec h' r') hb
  refine ⟨?_, h3⟩
  obtain ⟨k1, k2, k3, k4, k5, k6, k7, k8⟩ := bytesO_inj h2 h.2.1 h'.2.1 h.2.2.1 h.2.2.2 h'.2.2.1 h'.2.2.2
  cases e
  cases e'
  simp only at h1 k1 k2 k3 k4 k5 k6 k7 k8
  subst h1 k1 k2 k3 k4 k5 k6 k7 k8
  rfl
/-- An entry follows a number, or nothing. -/
def folE : Option Nat → EntL → Prop
  | none, _ => True
  | some k, e => e.n = k + 1
/-- The entries that a log tells behind a record of the number p. -/
inductive Sc : Option Nat → List Int → List EntL → Prop where
  | stop {p : Option Nat} {zs : List Int} (h : ∀ e r, e.ok → folE p e → zs ≠ e.raw ++ r) : Sc p zs []
  | step {p : Option Nat} {zs r : List Int} {e : EntL} {L : List EntL} (he : e.ok) (hf : folE p e) (hz : zs = e.raw ++ r) (ht : Sc (some e.n) r L) : Sc p zs (e :: L)
theorem Sc.head {p : Option Nat} {zs r : List Int} {e : EntL} {L : List EntL} (h : Sc p zs L) (hb : ∀ z ∈ zs, 0 ≤ z ∧ z < 256) (he : e.ok) (hf : folE p e) (hz : zs = e.raw ++ r) : ∃ L', L = e :: L' ∧ Sc (some e.n) r L' := by
  cases h with
  | stop h => exact absurd hz (h e r he hf)
  | step he' hf' hz' ht =>
    obtain ⟨rfl, rfl⟩ := ent_one he' he (hz'.symm.trans hz) (by rw [← hz']; exact hb)
    exact ⟨_, rfl, ht⟩
theorem Sc.nothing {p : Option Nat} {zs : List Int} {L : List EntL} (h : Sc p zs L) (hno : ∀ e r, e.ok → folE p e → zs ≠ e.raw ++ r) : L = [] := by
  cases h with
  | stop h => rfl
  | step he' hf' hz' ht => exact absurd hz' (hno _ _ he' hf')
theorem Sc.ex : ∀ (m : Nat) (p : Option Nat) (zs : List Int), zs.length ≤ m → ∃ L, Sc p zs L
  | 0, p, zs, h => ⟨[], .stop (fun e r he hf hz => by rw [hz, List.length_append, e.raw_len] at h; omega)⟩
  | m + 1, p, zs, h => by
    by_cases hx : ∃ e r, e.ok ∧ folE p e ∧ zs = e.raw ++ r
    · obtain ⟨e, r, he, hf, hz⟩ := hx
      obtain ⟨L, hL⟩ := Sc.ex m (some e.n) r (by rw [hz, List.length_append, e.raw_len] at h; omega)
      exact ⟨e :: L, .step he hf hz hL⟩
    · exact ⟨[], .stop (fun e r he hf hz => hx ⟨e, r, he, hf, hz⟩)⟩
theorem Sc.len : ∀ {L : List EntL} {p : Option Nat} {zs : List Int}, Sc p zs L → L.length * 45 ≤ zs.length
  | _, _, _, .stop h => by simp
  | _, _, _, .step (e := e) (L := L) he hf hz ht => by
    have := Sc.len ht
    rw [hz, List.length_append, e.raw_len, List.length_cons]
    omega
theorem Sc.oks : ∀ {L : List EntL} {p : Option Nat} {zs : List Int}, Sc p zs L → ∀ e ∈ L, e.ok
  | _, _, _, .stop h, e, he => by simp at he
  | _, _, _, .step he hf hz ht, e, hm => by
    rcases List.mem_cons.1 hm with rfl | hm
    · exact he
    · exact Sc.oks ht e hm
theorem Sc.bds : ∀ {L : List EntL} {p : Option Nat} {zs : List Int}, Sc p zs L → (∀ z ∈ zs, 0 ≤ z ∧ z < 256) → ∀ e ∈ L, ∀ z ∈ e.raw, 0 ≤ z ∧ z < 256
  | _, _, _, .stop h, _, e, he => by simp at he
  | _, _, _, .step he hf hz ht, hb, e, hm => by
    subst hz
    rcases List.mem_cons.1 hm with rfl | hm
    · exact fun z h => hb z (by simp [h])
    · exact Sc.bds ht (fun z h => hb z (by simp [h])) e hm
theorem Sc.tot : ∀ {L : List EntL} {p : Option Nat} {zs : List Int}, Sc p zs L → (L.map EntL.raw).flatten.length ≤ zs.length
  | _, _, _, .stop h => by simp
  | _, _, _, .step he hf hz ht => by
    have := Sc.tot ht
    rw [hz, List.map_cons, List.flatten_cons, List.length_append, List.length_append]
    omega
theorem EntL.ds_bd {e : EntL} (h : ∀ z ∈ e.raw, 0 ≤ z ∧ z < 256) : ∀ z ∈ e.ds, 0 ≤ z ∧ z < 256 := fun z hz => h z (by
  unfold EntL.raw EntL.body recO bytesO partsO
  simp [hz])
/-- What a reader looks at, if there is a record. -/
theorem ent_back {zs r : List Int} {e : EntL} (he : e.ok) (hz : zs = e.raw ++ r) (hb : ∀ z ∈ zs, 0 ≤ z ∧ z < 256) :
    16 + e.body.length ≤ zs.length ∧ unle (zs.take 8) = e.n ∧ unle ((zs.drop 8).take 4) = e.body.length ∧ unle ((zs.drop 12).take 4) = sumO e.n e.body ∧ (zs.drop 16).take e.body.length = e.body ∧ zs.drop (16 + e.body.length) = r ∧ e.body.length ≤ 5149 := by
  subst hz
  have bE : ∀ z ∈ e.body, 0 ≤ z ∧ z < 256 := fun z hz => hb z (by unfold EntL.raw recO; simp [hz])
  have hl := (EntL.isRec he r).2.2.1.len
  obtain ⟨a1, a2, a3, a4, a5⟩ := rec_pieces e.n e.body r (by have := he.1.2; omega) (by omega) bE
  refine ⟨?_, a1, a2, a3, a4, a5, hl⟩
  unfold EntL.raw
  rw [List.length_append, recO_len]
  omega
/-- What a reader found makes a record. -/
theorem ent_of {zs : List Int} (hb : ∀ z ∈ zs, 0 ≤ z ∧ z < 256) {n m : Nat} (h16 : 16 + m ≤ zs.length) (hn : n = unle (zs.take 8)) (hm : m = unle ((zs.drop 8).take 4)) (h1 : 1 ≤ n) (h2 : n ≤ 1099511627776)
    {K A B U G : Int} {p q : ByteArray} {ds : List Int} (hD : IsDec ((zs.drop 16).take m) K A B U G p q ds 0) (hs : unle ((zs.drop 12).take 4) = sumO n ((zs.drop 16).take m)) :
    (⟨n, K, A, B, U, G, p, q, ds⟩ : EntL).ok ∧ zs = (⟨n, K, A, B, U, G, p, q, ds⟩ : EntL).raw ++ zs.drop (16 + m) ∧ (⟨n, K, A, B, U, G, p, q, ds⟩ : EntL).body.length = m := by
  have hr := rec_of hb n m h16 hn hm h1 h2 ((dec_isOp hD).1 rfl) hs
  rcases hD with ⟨_, d2, d3, d4, d5⟩ | ⟨d1, _⟩
  · have hbd : (⟨n, K, A, B, U, G, p, q, ds⟩ : EntL).body = (zs.drop 16).take m := d2.symm
    refine ⟨⟨⟨h1, h2⟩, d3, d4, d5⟩, ?_, ?_⟩
    · unfold EntL.raw
      rw [hbd]
      exact hr.2.2.2
    · rw [hbd, List.length_take, List.length_drop]
      omega
  · omega
end Go.Proofs.Ythkoflpcinbgeaa

namespace Go.Proofs.Ythkoflpcinbgeaa
set_option linter.unusedVariables false
set_option linter.unusedSimpArgs false
open Go.RowKit

/-- Any two parts, one behind the other. -/
theorem tog2B (v0 v1 : Value) (b0 b1 : List Int) (w : World) (h0 : Rd .u8 w v0 b0) (h1 : Rd .u8 w v1 b1) (hl : (b0 ++ b1).length ≤ 4000000) :
    Calls Try.prog 47 #[.slice (some ⟨w.heap.size, 0, none⟩) 2 2] (w.alloc (.cells #[v0, v1] 22)) fun e w' => ∃ v', e = .returned v' ∧ w'.ownsRow w.heap.size 5 1 v' (b0 ++ b1).length ((b0 ++ b1).map (Value.int .u8)) ∧ Below w.heap.size w w' := by
  have bN := (Below.refl w.heap.size w).alloc (Nat.le_refl _) (.cells #[v0, v1] 22)
  have he : ([b0, b1] : List (List Int)).flatten = b0 ++ b1 := by simp
  have h := togB_any w.heap.size 2 2 [v0, v1] [b0, b1] (w.alloc (.cells #[v0, v1] 22)) (fun j u hu => by
    rw [cell_of_row _ _ j _ _ _ (heap_alloc_new w _)]
    simpa using hu) ⟨h0.below bN, h1.below bN, trivial⟩ rfl (by omega) (by rw [he]; exact hl) (by simp)
  rw [he] at h
  refine h.mono ?_
  rintro e w' ⟨v', rfl, ho, hb⟩
  exact ⟨v', rfl, own_mono ho (by simp), bN.trans (hb.mono (by simp))⟩
set_option maxRecDepth 100000 in
set_option maxHeartbeats 1000000 in
theorem recSumG (hs E : List Int) (v0 v1 : Value) (w : World) (h0 : Rd .u8 w v0 hs) (h1 : Rd .u8 w v1 E) (hE : ∀ z ∈ hs ++ E, 0 ≤ z ∧ z < 256) (hl : (hs ++ E).length ≤ 4000000) :
    Calls Try.prog 38 #[v0, v1] w fun e w' => e = .returned (.int .u32 (Crc.crc (hs ++ E) : Nat)) ∧ Below w.heap.size w w' := by
  have HR := hide (And.intro h0 (And.intro h1 (And.intro hE hl)))
  obtain ⟨a0, c0, rfl⟩ : ∃ a c, v0 = .slice a hs.length c := by obtain ⟨a, c, e, _⟩ := h0; exact ⟨a, c, e⟩
  obtain ⟨a1, c1, rfl⟩ : ∃ a c, v1 = .slice a E.length c := by obtain ⟨a, c, e, _⟩ := h1; exact ⟨a, c, e⟩
  clear h0 h1 hE hl
  go_enter Try.func38, Try.ntmps38
  go_wp2_with (go_at_call 47; fail)
  refine (tog2B _ _ _ _ _ HR.out.1 HR.out.2.1 HR.out.2.2.2).mono ?_
  rintro e w1 ⟨x, rfl, o1, b1⟩
  have H1 := hide (And.intro (Rd.own o1) b1)
  clear o1 b1
  go_wp2_with fail
  refine (implCrc_any x (hs ++ E) _ H1.out.1 HR.out.2.2.1).mono ?_
  rintro e w2 ⟨he, hw2⟩
  subst he
  have B2 := hide (show Below w.heap.size w w2 from by rw [hw2]; exact H1.out.2)
  clear hw2
  go_wp2
  go_ret
  exact ⟨rfl, B2.out⟩
/-- A piece of a slice, whatever its place. -/
theorem slice_piece {w0 : World} {a : Option Addr} {len cap : Nat} {zs : List Int} (h : Rd .u8 w0 (.slice a len cap) zs) (lo hi : Nat) (h1 : lo ≤ hi) (h2 : hi ≤ zs.length) :
    ∃ a' c', Rd .u8 w0 (.slice a' (hi - lo) c') ((zs.drop lo).take (hi - lo)) ∧ ∀ wx, (Instr.slice 22 (.slice a len cap) (some (.int .i64 (lo : Int))) (some (.int .i64 (hi : Int))) none).run Try.prog wx = .ok (.slice a' (hi - lo) c') wx := by
  obtain ⟨i0, hi0, hz0, hz1, hz2⟩ := info_parts infoU8
  obtain ⟨a0, cap0, e, hm, hc, hl, hcm⟩ := h
  injection e with e1 e2 e3
  subst e1 e2 e3
  have hlen : ((zs.drop lo).take (hi - lo)).length = hi - lo := by rw [List.length_take, List.length_drop]; omega
  have hrun : ∀ wx, (Instr.slice 22 (.slice a zs.length cap) (some (.int .i64 (lo : Int))) (some (.int .i64 (hi : Int))) none).run Try.prog wx = .ok (sliced a lo hi cap 1) wx := fun wx => by
    rw [run_slice_lh (P := Try.prog) (w := wx) 22 a zs.length cap (by rw [Try.underlying22]; rfl) .i64 .i64 (lo : Int) (hi : Int) (by omega) (by omega) (by omega)]
    simp [sizeOf, typeInfo, show Try.prog.elem 22 = 5 from by kernel_rfl, hi0, hz1, Result.andThen]
  refine ⟨_, _, ?_, hrun⟩
  refine ⟨_, _, by rw [hlen], by omega, fun hne => ?_, by rw [hlen]; omega, by omega⟩
  have hp : lo < zs.length := by
    rcases Nat.lt_or_ge lo zs.length with h | h
    · exact h
    · exact absurd (by rw [List.drop_eq_nil_of_le h]; simp) hne
  obtain ⟨b, off, rfl, hb, hcell⟩ := hc (fun e => by rw [e] at hp; simp at hp)
  refine ⟨b, off + lo, ?_, hb, fun i hi2 => ?_⟩
  · rw [if_neg (by omega), Option.map_some, Nat.mul_one, Addr.add_mid]
  · rw [hlen] at hi2
    rw [Nat.add_assoc, hcell (lo + i) (by omega)]
    simp [List.getD, hi2]
/-- The world as far as block b. -/
def upTo (W : World) (b : Nat) : World := { W with heap := W.heap.extract 0 b }
theorem upTo_size (W : World) (b : Nat) (h : b ≤ W.heap.size) : (upTo W b).heap.size = b := by
  show (W.heap.extract 0 b).size = b
  rw [Array.size_extract]; omega
theorem upTo_below (W : World) (b : Nat) (h : b ≤ W.heap.size) : Below b (upTo W b) W := by
  refine ⟨rfl, rfl, rfl, by rw [upTo_size W b h]; exact h, fun k hk => ?_⟩
  show W.heap[k]? = (W.heap.extract 0 b)[k]?
  rw [Array.getElem?_extract, if_pos (by omega), Nat.zero_add]
theorem Rd.upTo {W : World} {b n₀ : Nat} {w : World} {v : Value} {zs : List Int} (h : Rd .u8 w v zs) (hb : Below w.heap.size w W) (hn : w.heap.size ≤ b) (hW : b ≤ W.heap.size) : Rd .u8 (upTo W b) v zs := by
  obtain ⟨a, cap, rfl, hm, hc, hcap⟩ := h
  refine ⟨a, cap, rfl, hm, fun hne => ?_, hcap⟩
  obtain ⟨bl, off, rfl, hlt, hcell⟩ := hc hne
  refine ⟨bl, off, rfl, by rw [upTo_size W b hW]; omega, fun i hi => ?_⟩
  rw [← (upTo_below W b hW).cell (p := ⟨bl, off + i, none⟩) (show bl < b by omega)]
  exact (hb.cell (p := ⟨bl, off + i, none⟩) hlt).trans (hcell i hi)
/-- A reader beside which another block turned. -/
theorem Rdr.aside {w0 w w' : World} {b lo g : Nat} {ok : Bool} {dv : Value} {zs : List Int} {pos : Nat} (h : Rdr w0 w b lo ok dv zs pos) (hg : w.grownBy w' (some g)) (h1 : b < g) (h2 : g < lo) : Rdr w0 w' b lo ok dv zs pos := by
  have hblk : w'.heap[b]? = w.heap[b]? := hg.block b h.ck.lt (fun e => by injection e with e; omega)
  exact ⟨h.ck.grown hg (by omega) h2, (World.cell?_of_block (a := ⟨b, 2, none⟩) hblk).trans h.data, (World.cell?_of_block (a := ⟨b, 3, none⟩) hblk).trans h.at_, (World.frozen?_of_block (a := ⟨b, 3, none⟩) hblk).trans h.fr, h.old.grown hg (Nat.le_of_lt h.ck.lt) (fun k e => by cases e; omega), h.size, h.rd, h.le, h.lo1, Nat.le_trans h.lo2 hg.size⟩
theorem Rdr.relo {w0 w : World} {b lo lo' : Nat} {dv : Value} {zs : List Int} {pos : Nat} (h : Rdr w0 w b lo true dv zs pos) (h1 : b < lo') (h2 : lo' ≤ w.heap.size) : Rdr w0 w b lo' true dv zs pos :=
  ⟨h.ck.relo, h.data, h.at_, h.fr, h.old, h.size, h.rd, h.le, h1, h2⟩
end Go.Proofs.Ythkoflpcinbgeaa
