/- Mathematics of a log: its first record, and that there is but one way to cut it. Mathematics of a log: the entries that its records tell, one after the other, and that there is but one list of them. The program reads a record of a log: small notions, the sum of a record. What the program's reading of a record tells. -/
import Derived.Test.YtohmjfagbhnieaaGreatDoorZl26
namespace Go.Proofs.YtohmjfagbhnieaaGreatDoor
set_option linter.unusedVariables false
set_option linter.unusedSimpArgs false
open Go.RowKit

/-- The bytes of an operation that may be laid down. -/
def IsOpB (E : List Int) : Prop := ∃ (K A B U G : Int) (p q : ByteArray) (ds : List Int), rightO K U G p q ds.length = true ∧ In64 A ∧ In64 B ∧ E = bytesO K.toNat A B U.toNat G.toNat p q ds
theorem IsOpB.len {E : List Int} (h : IsOpB E) : E.length ≤ 5149 := by
  obtain ⟨K, A, B, U, G, p, q, ds, hr, _, _, rfl⟩ := h
  have := rightO_bd hr
  rw [bytesO_len]
  omega
theorem dec_isOp {E : List Int} {K A B U G : Int} {p q : ByteArray} {ds : List Int} {code : Int} (h : IsDec E K A B U G p q ds code) : (code = 0 ↔ IsOpB E) := by
  rcases h with ⟨h1, h2, h3, h4, h5⟩ | ⟨h1, _, h3⟩
  · exact ⟨fun _ => ⟨K, A, B, U, G, p, q, ds, h3, h4, h5, h2⟩, fun _ => h1⟩
  · constructor
    · intro h; omega
    · rintro ⟨K', A', B', U', G', p', q', ds', g1, g2, g3, g4⟩
      exact absurd g4 (h3 _ _ _ _ _ _ _ _ g1 g2 g3)
/-- A record of the number n and the operation's bytes E lies at the beginning of zs, r behind it. -/
def IsRec (zs : List Int) (n : Nat) (E r : List Int) : Prop := 1 ≤ n ∧ n ≤ 1099511627776 ∧ IsOpB E ∧ zs = recO n E ++ r
theorem rec_pieces (n : Nat) (E r : List Int) (hn : n < 18446744073709551616) (hE : E.length < 4294967296) (hb : ∀ z ∈ E, 0 ≤ z ∧ z < 256) :
    unle ((recO n E ++ r).take 8) = n ∧ unle (((recO n E ++ r).drop 8).take 4) = E.length ∧ unle (((recO n E ++ r).drop 12).take 4) = sumO n E ∧ ((recO n E ++ r).drop 16).take E.length = E ∧ (recO n E ++ r).drop (16 + E.length) = r := by
  have e : recO n E ++ r = le 8 n ++ (le 4 E.length ++ (le 4 (sumO n E) ++ (E ++ r))) := by simp [recO, headO, List.append_assoc]
  have p0 : (recO n E ++ r).take 8 = le 8 n := by
    have := midL ([] : List Int) (le 8 n) (le 4 E.length ++ (le 4 (sumO n E) ++ (E ++ r))) 0 8 rfl (le_len _ _)
    rw [e]; simpa using this
  have p1 : ((recO n E ++ r).drop 8).take 4 = le 4 E.length := by rw [e]; exact midL _ _ _ 8 4 (le_len _ _) (le_len _ _)
  have p2 : ((recO n E ++ r).drop 12).take 4 = le 4 (sumO n E) := by
    have := midL (le 8 n ++ le 4 E.length) (le 4 (sumO n E)) (E ++ r) 12 4 (by simp [le_len]) (le_len _ _)
    rw [e]; simpa [List.append_assoc] using this
  have p3 : ((recO n E ++ r).drop 16).take E.length = E := by
    have := midL (le 8 n ++ (le 4 E.length ++ le 4 (sumO n E))) E r 16 E.length (by simp [le_len]) rfl
    rw [e]; simpa [List.append_assoc] using this
  have hs := sumO_lt n E hb
  refine ⟨by rw [p0, unleL, Nat.mod_eq_of_lt (by omega)], by rw [p1, unleL, Nat.mod_eq_of_lt (by omega)], by rw [p2, unleL, Nat.mod_eq_of_lt (by omega)], p3, ?_⟩
  rw [List.drop_append_of_le_length (by rw [recO_len]; omega), ← recO_len n E, List.drop_length, List.nil_append]
/-- There is but one way to cut the first record off. -/
theorem IsRec.one {zs : List Int} {n : Nat} {E r : List Int} {n' : Nat} {E' r' : List Int} (h : IsRec zs n E r) (h' : IsRec zs n' E' r') (hb : ∀ z ∈ zs, 0 ≤ z ∧ z < 256) : n = n' ∧ E = E' ∧ r = r' := by
  obtain ⟨h1, h2, h3, h4⟩ := h
  obtain ⟨g1, g2, g3, g4⟩ := h'
  have bE : ∀ z ∈ E, 0 ≤ z ∧ z < 256 := fun z hz => hb z (by rw [h4]; simp [recO, hz])
  have bE' : ∀ z ∈ E', 0 ≤ z ∧ z < 256 := fun z hz => hb z (by rw [g4]; simp [recO, hz])
  obtain ⟨a1, a2, _, a4, a5⟩ := rec_pieces n E r (by omega) (by have := h3.len; omega) bE
  obtain ⟨c1, c2, _, c4, c5⟩ := rec_pieces n' E' r' (by omega) (by have := g3.len; omega) bE'
  rw [← h4] at a1 a2 a4 a5
  rw [← g4] at c1 c2 c4 c5
  have hn : n = n' := a1.symm.trans c1
  have hl : E.length = E'.length := a2.symm.trans c2
  rw [hl] at a4 a5
  exact ⟨hn, a4.symm.trans c4, a5.symm.trans c5⟩
/-- What a reader looks at tells whether there is one. -/
theorem rec_of {zs : List Int} (hb : ∀ z ∈ zs, 0 ≤ z ∧ z < 256) (n m : Nat) (h16 : 16 + m ≤ zs.length) (hn : n = unle (zs.take 8)) (hm : m = unle ((zs.drop 8).take 4)) (h1 : 1 ≤ n) (h2 : n ≤ 1099511627776) (hO : IsOpB ((zs.drop 16).take m)) (hs : unle ((zs.drop 12).take 4) = sumO n ((zs.drop 16).take m)) : IsRec zs n ((zs.drop 16).take m) (zs.drop (16 + m)) := by
  refine ⟨h1, h2, hO, ?_⟩
  have hl : ((zs.drop 16).take m).length = m := by rw [List.length_take, List.length_drop]; omega
  have g0 := leAt hb 0 8 n (by omega) (by simpa using hn)
  have g1 := leAt hb 8 4 m (by omega) hm
  have g2 := leAt hb 12 4 (sumO n ((zs.drop 16).take m)) (by omega) hs.symm
  have e0 : zs = zs.drop 0 := by simp
  have e4 := chopL zs 16 m (16 + m) rfl
  generalize (zs.drop 16).take m = E at hl g2 e4 hO hs ⊢
  unfold recO headO
  rw [hl]
  conv => lhs; rw [e0]
  rw [chopL zs 0 8 8 (by omega), g0, chopL zs 8 4 12 (by omega), g1, chopL zs 12 4 16 (by omega), g2, e4]
  simp [List.append_assoc]
/-- The records of a log: as long as they are whole and right and their numbers follow. -/
inductive Recs : List Int → List (Nat × List Int) → Prop where
  | stop {zs : List Int} (h : ∀ n E r, ¬ IsRec zs n E r) : Recs zs []
  | last {zs r : List Int} {n : Nat} {E : List Int} (h : IsRec zs n E r) (hno : ∀ E' r', ¬ IsRec r (n + 1) E' r') : Recs zs [(n, E)]
  | more {zs r : List Int} {n : Nat} {E E' : List Int} {L : List (Nat × List Int)} (h : IsRec zs n E r) (ht : Recs r ((n + 1, E') :: L)) : Recs zs ((n, E) :: (n + 1, E') :: L)
end Go.Proofs.YtohmjfagbhnieaaGreatDoor

namespace Go.Proofs.YtohmjfagbhnieaaGreatDoor
set_option linter.unusedVariables false
set_option linter.unusedSimpArgs false
open Go.RowKit

/-- An entry: its number, and the fields of its operation. -/
structure EntL where
  n : Nat
  K : Int
  A : Int
  B : Int
  U : Int
  G : Int
  p : ByteArray
  q : ByteArray
  ds : List Int
/-- The bytes of its operation; its record; whether it may lie in a log. -/
def EntL.body (e : EntL) : List Int := bytesO e.K.toNat e.A e.B e.U.toNat e.G.toNat e.p e.q e.ds
def EntL.raw (e : EntL) : List Int := recO e.n e.body
def EntL.ok (e : EntL) : Prop := (1 ≤ e.n ∧ e.n ≤ 1099511627776) ∧ rightO e.K e.U e.G e.p e.q e.ds.length = true ∧ In64 e.A ∧ In64 e.B
theorem EntL.body_len (e : EntL) : e.body.length = 29 + e.p.size + e.q.size + e.ds.length := bytesO_len _ _ _ _ _ _ _ _
theorem EntL.raw_len (e : EntL) : e.raw.length = 45 + e.p.size + e.q.size + e.ds.length := by unfold EntL.raw; rw [recO_len, e.body_len]; omega
theorem EntL.isRec {e : EntL} (h : e.ok) (r : List Int) : IsRec (e.raw ++ r) e.n e.body r := ⟨h.1.1, h.1.2, ⟨e.K, e.A, e.B, e.U, e.G, e.p, e.q, e.ds, h.2.1, h.2.2.1, h.2.2.2, rfl⟩, rfl⟩
theorem ent_one {e e' : EntL} {r r' : List Int} (h : e.ok) (h' : e'.ok) (hz : e.raw ++ r = e'.raw ++ r') (hb : ∀ z ∈ e.raw ++ r, 0 ≤ z ∧ z < 256) : e = e' ∧ r = r' := by
  obtain ⟨h1, h2, h3⟩ := (EntL.isRec h r).one (by rw [hz]; exact EntL.isRec h' r') hb
  refine ⟨?_, h3⟩
  obtain ⟨k1, k2, k3, k4, k5, k6, k7, k8⟩ := bytesO_inj h2 h.2.1 h'.2.1 h.2.2.1 h.2.2.2 h'.2.2.1 h'.2.2.2
  cases e
  cases e'
  simp only at h1 k1 k2 k3 k4 k5 k6 k7 k8
  subst h1 k1 k2 k3 k4 k5 k6 k7 k8
  rfl
/-- An entry follows a number, or nothing. -/
def folE : Option Nat → EntL → Prop
  | none, _ => True
  | some k, e => e.n = k + 1
/-- The entries that a log tells behind a record of the number p. -/
inductive ScE : Option Nat → List Int → List EntL → Prop where
  | stop {p : Option Nat} {zs : List Int} (h : ∀ e r, e.ok → folE p e → zs ≠ e.raw ++ r) : ScE p zs []
  | step {p : Option Nat} {zs r : List Int} {e : EntL} {L : List EntL} (he : e.ok) (hf : folE p e) (hz : zs = e.raw ++ r) (ht : ScE (some e.n) r L) : ScE p zs (e :: L)
theorem ScE.head {p : Option Nat} {zs r : List Int} {e : EntL} {L : List EntL} (h : ScE p zs L) (hb : ∀ z ∈ zs, 0 ≤ z ∧ z < 256) (he : e.ok) (hf : folE p e) (hz : zs = e.raw ++ r) : ∃ L', L = e :: L' ∧ ScE (some e.n) r L' := by
  cases h with
  | stop h => exact absurd hz (h e r he hf)
  | step he' hf' hz' ht =>
    obtain ⟨rfl, rfl⟩ := ent_one he' he (hz'.symm.trans hz) (by rw [← hz']; exact hb)
    exact ⟨_, rfl, ht⟩
theorem ScE.nothing {p : Option Nat} {zs : List Int} {L : List EntL} (h : ScE p zs L) (hno : ∀ e r, e.ok → folE p e → zs ≠ e.raw ++ r) : L = [] := by
  cases h with
  | stop h => rfl
  | step he' hf' hz' ht => exact absurd hz' (hno _ _ he' hf')
theorem ScE.ex : ∀ (m : Nat) (p : Option Nat) (zs : List Int), zs.length ≤ m → ∃ L, ScE p zs L
  | 0, p, zs, h => ⟨[], .stop (fun e r he hf hz => by rw [hz, List.length_append, e.raw_len] at h; omega)⟩
  | m + 1, p, zs, h => by
    by_cases hx : ∃ e r, e.ok ∧ folE p e ∧ zs = e.raw ++ r
    · obtain ⟨e, r, he, hf, hz⟩ := hx
      obtain ⟨L, hL⟩ := ScE.ex m (some e.n) r (by rw [hz, List.length_append, e.raw_len] at h; omega)
      exact ⟨e :: L, .step he hf hz hL⟩
    · exact ⟨[], .stop (fun e r he hf hz => hx ⟨e, r, he, hf, hz⟩)⟩
theorem ScE.len : ∀ {L : List EntL} {p : Option Nat} {zs : List Int}, ScE p zs L → L.length * 45 ≤ zs.length
  | _, _, _, .stop h => by simp
  | _, _, _, .step (e := e) (L := L) he hf hz ht => by
    have := ScE.len ht
    rw [hz, List.length_append, e.raw_len, List.length_cons]
    omega
theorem ScE.oks : ∀ {L : List EntL} {p : Option Nat} {zs : List Int}, ScE p zs L → ∀ e ∈ L, e.ok
  | _, _, _, .stop h, e, he => by simp at he
  | _, _, _, .step he hf hz ht, e, hm => by
    rcases List.mem_cons.1 hm with rfl | hm
    · exact he
    · exact ScE.oks ht e hm
theorem ScE.bds : ∀ {L : List EntL} {p : Option Nat} {zs : List Int}, ScE p zs L → (∀ z ∈ zs, 0 ≤ z ∧ z < 256) → ∀ e ∈ L, ∀ z ∈ e.raw, 0 ≤ z ∧ z < 256
  | _, _, _, .stop h, _, e, he => by simp at he
  | _, _, _, .step he hf hz ht, hb, e, hm => by
    subst hz
    rcases List.mem_cons.1 hm with rfl | hm
    · exact fun z h => hb z (by simp [h])
    · exact ScE.bds ht (fun z h => hb z (by simp [h])) e hm
theorem ScE.tot : ∀ {L : List EntL} {p : Option Nat} {zs : List Int}, ScE p zs L → (L.map EntL.raw).flatten.length ≤ zs.length
  | _, _, _, .stop h => by simp
  | _, _, _, .step he hf hz ht => by
    have := ScE.tot ht
    rw [hz, List.map_cons, List.flatten_cons, List.length_append, List.length_append]
    omega
theorem EntL.ds_bd {e : EntL} (h : ∀ z ∈ e.raw, 0 ≤ z ∧ z < 256) : ∀ z ∈ e.ds, 0 ≤ z ∧ z < 256 := fun z hz => h z (by
  unfold EntL.raw EntL.body recO bytesO partsO
  simp [hz])
/-- What a reader looks at, if there is a record. -/
theorem ent_back {zs r : List Int} {e : EntL} (he : e.ok) (hz : zs = e.raw ++ r) (hb : ∀ z ∈ zs, 0 ≤ z ∧ z < 256) :
    16 + e.body.length ≤ zs.length ∧ unle (zs.take 8) = e.n ∧ unle ((zs.drop 8).take 4) = e.body.length ∧ unle ((zs.drop 12).take 4) = sumO e.n e.body ∧ (zs.drop 16).take e.body.length = e.body ∧ zs.drop (16 + e.body.length) = r ∧ e.body.length ≤ 5149 := by
  subst hz
  have bE : ∀ z ∈ e.body, 0 ≤ z ∧ z < 256 := fun z hz => hb z (by unfold EntL.raw recO; simp [hz])
  have hl := (EntL.isRec he r).2.2.1.len
  obtain ⟨a1, a2, a3, a4, a5⟩ := rec_pieces e.n e.body r (by have := he.1.2; omega) (by omega) bE
  refine ⟨?_, a1, a2, a3, a4, a5, hl⟩
  unfold EntL.raw
  rw [List.length_append, recO_len]
  omega
/-- What a reader found makes a record. -/
theorem ent_of {zs : List Int} (hb : ∀ z ∈ zs, 0 ≤ z ∧ z < 256) {n m : Nat} (h16 : 16 + m ≤ zs.length) (hn : n = unle (zs.take 8)) (hm : m = unle ((zs.drop 8).take 4)) (h1 : 1 ≤ n) (h2 : n ≤ 1099511627776)
    {K A B U G : Int} {p q : ByteArray} {ds : List Int} (hD : IsDec ((zs.drop 16).take m) K A B U G p q ds 0) (hs : unle ((zs.drop 12).take 4) = sumO n ((zs.drop 16).take m)) :
    (⟨n, K, A, B, U, G, p, q, ds⟩ : EntL).ok ∧ zs = (⟨n, K, A, B, U, G, p, q, ds⟩ : EntL).raw ++ zs.drop (16 + m) ∧ (⟨n, K, A, B, U, G, p, q, ds⟩ : EntL).body.length = m := by
  have hr := rec_of hb n m h16 hn hm h1 h2 ((dec_isOp hD).1 rfl) hs
  rcases hD with ⟨_, d2, d3, d4, d5⟩ | ⟨d1, _⟩
  · have hbd : (⟨n, K, A, B, U, G, p, q, ds⟩ : EntL).body = (zs.drop 16).take m := d2.symm
    refine ⟨⟨⟨h1, h2⟩, d3, d4, d5⟩, ?_, ?_⟩
    · unfold EntL.raw
      rw [hbd]
      exact hr.2.2.2
    · rw [hbd, List.length_take, List.length_drop]
      omega
  · omega
end Go.Proofs.YtohmjfagbhnieaaGreatDoor

namespace Go.Proofs.YtohmjfagbhnieaaGreatDoor
set_option linter.unusedVariables false
set_option linter.unusedSimpArgs false
open Go.RowKit

/-- Any two parts, one behind the other. -/
theorem tog2B (v0 v1 : Value) (b0 b1 : List Int) (w : World) (h0 : Rd .u8 w v0 b0) (h1 : Rd .u8 w v1 b1) (hl : (b0 ++ b1).length ≤ 4000000) :
    Calls Tryz.prog 28 #[.slice (some ⟨w.heap.size, 0, none⟩) 2 2] (w.alloc (.cells #[v0, v1] 22)) fun e w' => ∃ v', e = .returned v' ∧ w'.ownsRow w.heap.size 5 1 v' (b0 ++ b1).length ((b0 ++ b1).map (Value.int .u8)) ∧ Below w.heap.size w w' := by
  have bN := (Below.refl w.heap.size w).alloc (Nat.le_refl _) (.cells #[v0, v1] 22)
  have he : ([b0, b1] : List (List Int)).flatten = b0 ++ b1 := by simp
  have h := togB_any w.heap.size 2 2 [v0, v1] [b0, b1] (w.alloc (.cells #[v0, v1] 22)) (fun j u hu => by
    rw [cell_of_row _ _ j _ _ _ (heap_alloc_new w _)]
    simpa using hu) ⟨h0.below bN, h1.below bN, trivial⟩ rfl (by omega) (by rw [he]; exact hl) (by simp)
  rw [he] at h
  refine h.mono ?_
  rintro e w' ⟨v', rfl, ho, hb⟩
  exact ⟨v', rfl, own_mono ho (by simp), bN.trans (hb.mono (by simp))⟩
set_option maxRecDepth 100000 in
set_option maxHeartbeats 1000000 in
theorem recSumG (hs E : List Int) (v0 v1 : Value) (w : World) (h0 : Rd .u8 w v0 hs) (h1 : Rd .u8 w v1 E) (hE : ∀ z ∈ hs ++ E, 0 ≤ z ∧ z < 256) (hl : (hs ++ E).length ≤ 4000000) :
    Calls Tryz.prog 31 #[v0, v1] w fun e w' => e = .returned (.int .u32 (Crc.crc (hs ++ E) : Nat)) ∧ Below w.heap.size w w' := by
  have HR := hide (And.intro h0 (And.intro h1 (And.intro hE hl)))
  obtain ⟨a0, c0, rfl⟩ : ∃ a c, v0 = .slice a hs.length c := by obtain ⟨a, c, e, _⟩ := h0; exact ⟨a, c, e⟩
  obtain ⟨a1, c1, rfl⟩ : ∃ a c, v1 = .slice a E.length c := by obtain ⟨a, c, e, _⟩ := h1; exact ⟨a, c, e⟩
  clear h0 h1 hE hl
  go_enter Tryz.func31, Tryz.ntmps31
  go_wp2_with (go_at_call 28; fail)
  refine (tog2B _ _ _ _ _ HR.out.1 HR.out.2.1 HR.out.2.2.2).mono ?_
  rintro e w1 ⟨x, rfl, o1, b1⟩
  have H1 := hide (And.intro (Rd.own o1) b1)
  clear o1 b1
  go_wp2_with fail
  refine (implCrc_any x (hs ++ E) _ H1.out.1 HR.out.2.2.1).mono ?_
  rintro e w2 ⟨he, hw2⟩
  subst he
  have B2 := hide (show Below w.heap.size w w2 from by rw [hw2]; exact H1.out.2)
  clear hw2
  go_wp2
  go_ret
  exact ⟨rfl, B2.out⟩
set_option maxRecDepth 100000 in
/-- A piece of a slice, whatever its place. -/
theorem slice_piece {w0 : World} {a : Option Addr} {len cap : Nat} {zs : List Int} (h : Rd .u8 w0 (.slice a len cap) zs) (lo hi : Nat) (h1 : lo ≤ hi) (h2 : hi ≤ zs.length) :
    ∃ a' c', Rd .u8 w0 (.slice a' (hi - lo) c') ((zs.drop lo).take (hi - lo)) ∧ ∀ wx, (Instr.slice 22 (.slice a len cap) (some (.int .i64 (lo : Int))) (some (.int .i64 (hi : Int))) none).run Tryz.prog wx = .ok (.slice a' (hi - lo) c') wx := by
  obtain ⟨i0, hi0, hz0, hz1, hz2⟩ := info_parts infoU8
  obtain ⟨a0, cap0, e, hm, hc, hl, hcm⟩ := h
  injection e with e1 e2 e3
  subst e1 e2 e3
  have hlen : ((zs.drop lo).take (hi - lo)).length = hi - lo := by rw [List.length_take, List.length_drop]; omega
  have hrun : ∀ wx, (Instr.slice 22 (.slice a zs.length cap) (some (.int .i64 (lo : Int))) (some (.int .i64 (hi : Int))) none).run Tryz.prog wx = .ok (sliced a lo hi cap 1) wx := fun wx => by
    rw [run_slice_lh (P := Tryz.prog) (w := wx) 22 a zs.length cap (by rw [Tryz.underlying22]; rfl) .i64 .i64 (lo : Int) (hi : Int) (by omega) (by omega) (by omega)]
    simp [sizeOf, typeInfo, show Tryz.prog.elem 22 = 5 from by kernel_rfl, hi0, hz1, Result.andThen]
  refine ⟨_, _, ?_, hrun⟩
  refine ⟨_, _, by rw [hlen], by omega, fun hne => ?_, by rw [hlen]; omega, by omega⟩
  have hp : lo < zs.length := by
    rcases Nat.lt_or_ge lo zs.length with h | h
    · exact h
    · exact absurd (by rw [List.drop_eq_nil_of_le h]; simp) hne
  obtain ⟨b, off, rfl, hb, hcell⟩ := hc (fun e => by rw [e] at hp; simp at hp)
  refine ⟨b, off + lo, ?_, hb, fun i hi2 => ?_⟩
  · rw [if_neg (by omega), Option.map_some, Nat.mul_one, Addr.add_mid]
  · rw [hlen] at hi2
    rw [Nat.add_assoc, hcell (lo + i) (by omega)]
    simp [List.getD, hi2]
/-- The world as far as block b. -/
def upTo (W : World) (b : Nat) : World := { W with heap := W.heap.extract 0 b }
theorem upTo_size (W : World) (b : Nat) (h : b ≤ W.heap.size) : (upTo W b).heap.size = b := by
  show (W.heap.extract 0 b).size = b
  rw [Array.size_extract]; omega
theorem upTo_below (W : World) (b : Nat) (h : b ≤ W.heap.size) : Below b (upTo W b) W := by
  refine ⟨rfl, rfl, rfl, by rw [upTo_size W b h]; exact h, fun k hk => ?_⟩
  show W.heap[k]? = (W.heap.extract 0 b)[k]?
  rw [Array.getElem?_extract, if_pos (by omega), Nat.zero_add]
theorem Rd.upTo {W : World} {b n₀ : Nat} {w : World} {v : Value} {zs : List Int} (h : Rd .u8 w v zs) (hb : Below w.heap.size w W) (hn : w.heap.size ≤ b) (hW : b ≤ W.heap.size) : Rd .u8 (upTo W b) v zs := by
  obtain ⟨a, cap, rfl, hm, hc, hcap⟩ := h
  refine ⟨a, cap, rfl, hm, fun hne => ?_, hcap⟩
  obtain ⟨bl, off, rfl, hlt, hcell⟩ := hc hne
  refine ⟨bl, off, rfl, by rw [upTo_size W b hW]; omega, fun i hi => ?_⟩
  rw [← (upTo_below W b hW).cell (p := ⟨bl, off + i, none⟩) (show bl < b by omega)]
  exact (hb.cell (p := ⟨bl, off + i, none⟩) hlt).trans (hcell i hi)
/-- A reader beside which another block turned. -/
theorem Rdr.aside {w0 w w' : World} {b lo g : Nat} {ok : Bool} {dv : Value} {zs : List Int} {pos : Nat} (h : Rdr w0 w b lo ok dv zs pos) (hg : w.grownBy w' (some g)) (h1 : b < g) (h2 : g < lo) : Rdr w0 w' b lo ok dv zs pos := by
  have hblk : w'.heap[b]? = w.heap[b]? := hg.block b h.ck.lt (fun e => by injection e with e; omega)
  exact ⟨h.ck.grown hg (by omega) h2, (World.cell?_of_block (a := ⟨b, 2, none⟩) hblk).trans h.data, (World.cell?_of_block (a := ⟨b, 3, none⟩) hblk).trans h.at_, (World.frozen?_of_block (a := ⟨b, 3, none⟩) hblk).trans h.fr, h.old.grown hg (Nat.le_of_lt h.ck.lt) (fun k e => by cases e; omega), h.size, h.rd, h.le, h.lo1, Nat.le_trans h.lo2 hg.size⟩
theorem Rdr.relo {w0 w : World} {b lo lo' : Nat} {dv : Value} {zs : List Int} {pos : Nat} (h : Rdr w0 w b lo true dv zs pos) (h1 : b < lo') (h2 : lo' ≤ w.heap.size) : Rdr w0 w b lo' true dv zs pos :=
  ⟨h.ck.relo, h.data, h.at_, h.fr, h.old, h.size, h.rd, h.le, h1, h2⟩
end Go.Proofs.YtohmjfagbhnieaaGreatDoor

namespace Go.Proofs.YtohmjfagbhnieaaGreatDoor
set_option linter.unusedVariables false
set_option linter.unusedSimpArgs false
open Go.RowKit

/-- A record was read at pos, up to p'; or there is none. -/
def RL (zs : List Int) (pos : Nat) (e : EntL) (ok' : Bool) (p' : Nat) : Prop :=
  (ok' = true ∧ e.ok ∧ zs.drop pos = e.raw ++ zs.drop p' ∧ p' = pos + e.raw.length ∧ p' ≤ zs.length) ∨ (ok' = false ∧ ∀ (f : EntL) (r : List Int), f.ok → zs.drop pos ≠ f.raw ++ r)
theorem rl_math {zs : List Int} (hbd : ∀ z ∈ zs, 0 ≤ z ∧ z < 256) {pos x m s : Nat} {hs ts : List Int} {ok3 : Bool} {p3 : Nat} {RF : Bool}
    (hA : AdvO zs (pos + 16 + m) ok3 p3) (hx : pos + 8 ≤ zs.length → x = unle ((zs.drop pos).take 8)) (hm : pos + 12 ≤ zs.length → m = unle ((zs.drop (pos + 8)).take 4)) (hs0 : pos + 16 ≤ zs.length → s = unle ((zs.drop (pos + 12)).take 4))
    (hh : pos + 12 ≤ zs.length → hs = (zs.drop pos).take 12) (ht : pos + 16 + m ≤ zs.length → ts = (zs.drop (pos + 16)).take m)
    {K A B U G : Int} {p q : ByteArray} {ds : List Int} (hR1 : RF = true → IsDec ts K A B U G p q ds 0) (hR0 : RF = false → IsDec ts 0 0 0 0 0 ⟨#[]⟩ ⟨#[]⟩ [] 21) :
    RL zs pos ⟨x, K, A, B, U, G, p, q, ds⟩ (ok3 && decide ((s : Int) = ((Crc.crc (hs ++ ts) : Nat) : Int)) && wi (wrap64 (x : Int)) 1 1099511627776 && RF) p3 := by
  have bd' : ∀ z ∈ zs.drop pos, 0 ≤ z ∧ z < 256 := fun z hz => hbd z (List.mem_of_mem_drop hz)
  have e8 : (zs.drop pos).drop 8 = zs.drop (pos + 8) := List.drop_drop
  have e12 : (zs.drop pos).drop 12 = zs.drop (pos + 12) := List.drop_drop
  have e16 : (zs.drop pos).drop 16 = zs.drop (pos + 16) := List.drop_drop
  have eln : (zs.drop pos).length = zs.length - pos := List.length_drop
  -- what a record would have to be
  have back : ∀ (f : EntL) (r : List Int), f.ok → zs.drop pos = f.raw ++ r → pos + 16 + m ≤ zs.length ∧ x = f.n ∧ m = f.body.length ∧ s = sumO f.n f.body ∧ ts = f.body ∧ hs = headO f.n f.body.length := fun f r hf hz => by
    obtain ⟨a1, a2, a3, a4, a5, a6, a7⟩ := ent_back hf hz bd'
    rw [eln] at a1
    have hx' := hx (by omega)
    have hm' := hm (by omega)
    have hs' := hs0 (by omega)
    rw [a2] at hx'
    rw [← e8, a3] at hm'
    rw [← e12, a4] at hs'
    have hle : pos + 16 + m ≤ zs.length := by omega
    have ht' := ht hle
    rw [hm', ← e16, a5] at ht'
    refine ⟨hle, hx', hm', hs', ht', ?_⟩
    rw [hh (by omega), hz]
    unfold EntL.raw recO
    rw [List.append_assoc, ← headO_len f.n f.body.length, List.take_left]
  by_cases hle : pos + 16 + m ≤ zs.length
  · have hok := hA.1.2 hle
    have hp3 := hA.2 hok
    subst hok
    rw [Bool.true_and]
    by_cases hall : (decide ((s : Int) = ((Crc.crc (hs ++ ts) : Nat) : Int)) && wi (wrap64 (x : Int)) 1 1099511627776 && RF) = true
    · rw [hall]
      simp only [Bool.and_eq_true, decide_eq_true_eq] at hall
      obtain ⟨⟨h1, h2⟩, h3⟩ := hall
      have hx' := hx (by omega)
      have hxlt : x < 18446744073709551616 := by
        rw [hx']
        have := unle_lt ((zs.drop pos).take 8) (fun z hz => bd' z (List.mem_of_mem_take hz))
        rw [List.length_take, eln, show min 8 (zs.length - pos) = 8 from by omega] at this
        omega
      have hr : 1 ≤ x ∧ x ≤ 1099511627776 := by
        unfold wi wrap64 at h2
        simp at h2
        omega
      have ht' := ht hle
      have hm' := hm (by omega)
      have hs' := hs0 (by omega)
      have hh' : hs = headO x ts.length := by
        rw [hh (by omega)]
        have g0 := leAt bd' 0 8 x (by rw [eln]; omega) (by simpa using hx')
        have g1 := leAt bd' 8 4 m (by rw [eln]; omega) (by rw [e8]; exact hm')
        have hl : ts.length = m := by rw [ht', List.length_take, List.length_drop]; omega
        unfold headO
        rw [hl, ← g0, ← g1]
        rw [show (12 : Nat) = 8 + 4 from rfl, List.take_add]
        simp
      have hsum : unle (((zs.drop pos).drop 12).take 4) = sumO x (((zs.drop pos).drop 16).take m) := by
        rw [e12, e16, ← hs', ← ht']
        unfold sumO
        rw [← hh']
        omega
      obtain ⟨k1, k2, k3⟩ := ent_of bd' (n := x) (m := m) (by rw [eln]; omega) hx' (by rw [e8]; exact hm') hr.1 hr.2 (K := K) (A := A) (B := B) (U := U) (G := G) (p := p) (q := q) (ds := ds) (by rw [e16, ← ht']; exact hR1 h3) hsum
      have hrl : (⟨x, K, A, B, U, G, p, q, ds⟩ : EntL).raw.length = 16 + m := by unfold EntL.raw; rw [recO_len, k3]
      refine .inl ⟨rfl, k1, ?_, by rw [hrl, hp3]; omega, by omega⟩
      rw [List.drop_drop] at k2
      rw [hp3, show pos + 16 + m = pos + (16 + m) from by omega]
      exact k2
    · have hf : (decide ((s : Int) = ((Crc.crc (hs ++ ts) : Nat) : Int)) && wi (wrap64 (x : Int)) 1 1099511627776 && RF) = false := by simpa using hall
      rw [hf]
      refine .inr ⟨rfl, fun f r hfo hz => hall ?_⟩
      obtain ⟨b1, b2, b3, b4, b5, b6⟩ := back f r hfo hz
      simp only [Bool.and_eq_true, decide_eq_true_eq]
      refine ⟨⟨?_, ?_⟩, ?_⟩
      · rw [b4, b5, b6]
        rfl
      · have := hfo.1
        unfold wi wrap64
        simp
        omega
      · cases hRF : RF with
        | true => rfl
        | false =>
          have hd := hR0 hRF
          have := (dec_isOp hd).2 (by rw [b5]; exact (EntL.isRec hfo r).2.2.1)
          omega
  · have hok : ok3 = false := by
      cases h3 : ok3 with
      | false => rfl
      | true => exact absurd (hA.1.1 h3) hle
    subst hok
    rw [Bool.false_and, Bool.false_and, Bool.false_and]
    exact .inr ⟨rfl, fun f r hfo hz => hle (back f r hfo hz).1⟩

/-- The cells of what is read: the entry and its bytes. -/
def logC (n K A B U G : Int) (p q : ByteArray) (d r : Value) : Array Value := #[.int .i64 n, .int .i64 K, .int .i64 A, .int .i64 B, .int .i64 U, .int .i64 G, .string p, .string q, d, r]
def noL : Array Value := logC 0 0 0 0 0 0 ⟨#[]⟩ ⟨#[]⟩ (.slice none 0 0) (.slice none 0 0)
theorem grown_new {w A B : World} {b g : Nat} (h : w.grownBy A (some b)) (k : A.grownBy B (some g)) (hg : w.heap.size ≤ g) : w.grownBy B (some b) :=
  ⟨k.os.trans h.os, k.tape.trans h.tape, k.output.trans h.output, Nat.le_trans h.size k.size, fun i hi hne => (k.block i (by have := h.size; omega) (fun e => by injection e with e; omega)).trans (h.block i hi hne)⟩
theorem grown_below {w A B : World} {b : Nat} (h : w.grownBy A (some b)) (k : Below A.heap.size A B) : w.grownBy B (some b) :=
  ⟨k.os.trans h.os, k.tape.trans h.tape, k.output.trans h.output, Nat.le_trans h.size k.size, fun i hi hne => (k.block i (by have := h.size; omega)).trans (h.block i hi hne)⟩
theorem grown_cell (W : World) (g k : Nat) (x : Value) : W.grownBy (W.setCell ⟨g, k, none⟩ x) (some g) :=
  ⟨rfl, rfl, rfl, by simp [World.setCell], fun j hj hne => Below.heap_setCell W ⟨g, k, none⟩ x j (fun e => hne (by rw [e]))⟩
theorem AdvO.numM {okr : Bool} {zs : List Int} {m pr : Nat} {w0 w w' : World} {b lo : Nat} {dv : Value} {m' x : Nat} (h : AdvO zs m okr pr) (hn : Numd w0 w w' b lo okr dv zs pr m' x) :
    ∃ ok2 p2, Rdr w0 w' b lo ok2 dv zs p2 ∧ AdvO zs (m + m') ok2 p2 ∧ (ok2 = true → x = unle ((zs.drop m).take m')) ∧ w.grownBy w' (some b) ∧ pr ≤ p2 ∧ (okr = false → ok2 = false) := by
  obtain ⟨hg, hn⟩ := hn
  obtain ⟨h2, h3⟩ := h
  rcases hn with ⟨ho, hle, hx, hr⟩ | ⟨hno, hx, hr⟩
  · have hpm := h3 ho
    subst hpm
    exact ⟨true, _, hr, ⟨⟨fun _ => hle, fun _ => rfl⟩, fun _ => rfl⟩, fun _ => hx, hg, by omega, fun h => by rw [ho] at h; cases h⟩
  · refine ⟨false, _, hr, ⟨⟨(fun h => absurd h (by decide)), fun h => ?_⟩, (fun h => absurd h (by decide))⟩, (fun h => absurd h (by decide)), hg, by omega, fun _ => rfl⟩
    have ho := h2.2 (by omega)
    have hpm := h3 ho
    exact absurd ⟨ho, by omega⟩ hno
theorem AdvO.tookM {okr : Bool} {zs : List Int} {m pr : Nat} {w0 w w' : World} {b lo : Nat} {dv sv : Value} {n : Nat} (h : AdvO zs m okr pr) (hn : Took w0 w w' b lo okr dv zs pr n sv) :
    ∃ ok2 p2 ts, Rdr w0 w' b lo ok2 dv zs p2 ∧ AdvO zs (m + n) ok2 p2 ∧ Rd .u8 w0 sv ts ∧ ts.length ≤ n ∧ (ok2 = true → ts = (zs.drop m).take n) ∧ w.grownBy w' (some b) ∧ ts.length ≤ zs.length ∧ pr ≤ p2 ∧ ((∀ z ∈ zs, 0 ≤ z ∧ z < 256) → ∀ z ∈ ts, 0 ≤ z ∧ z < 256) := by
  obtain ⟨hg, hn⟩ := hn
  obtain ⟨h2, h3⟩ := h
  rcases hn with ⟨ho, _, hle, hrd, hr⟩ | ⟨hno, rfl, hr⟩
  · have hpm := h3 ho
    subst hpm
    rw [Int.toNat_natCast] at hrd hr
    exact ⟨true, _, _, hr, ⟨⟨fun _ => by omega, fun _ => rfl⟩, fun _ => rfl⟩, hrd, by rw [List.length_take]; omega, fun _ => rfl, hg, by rw [List.length_take, List.length_drop]; omega, by omega, fun hb z hz => hb z (List.mem_of_mem_drop (List.mem_of_mem_take hz))⟩
  · refine ⟨false, _, [], hr, ⟨⟨(fun h => absurd h (by decide)), fun h => ?_⟩, (fun h => absurd h (by decide))⟩, ⟨none, 0, rfl, by simp, fun h => absurd rfl h, by simp, by simp⟩, by simp, (fun h => absurd h (by decide)), hg, by simp, by omega, fun _ z hz => by simp at hz⟩
    have ho := h2.2 (by omega)
    have hpm := h3 ho
    exact absurd ⟨ho, by omega, by omega⟩ hno
/-- The reading of a record so far, in a call that began in w. -/
structure Rl (W1 w wr : World) (b lo : Nat) (dv : Value) (zs : List Int) (C : Array Value) (okr : Bool) (pr : Nat) : Prop where
  rdr : Rdr W1 wr b lo okr dv zs pr
  res : Blk wr w.heap.size noL 72
  blk : Blk wr (w.heap.size + 1) C 72
  lt : b < w.heap.size
  far : w.heap.size + 1 < lo
  gr : w.grownBy wr (some b)
theorem Rl.onward {W1 w wr w' : World} {b lo : Nat} {dv : Value} {zs : List Int} {C : Array Value} {okr ok2 : Bool} {pr p2 : Nat} (h : Rl W1 w wr b lo dv zs C okr pr) (hr : Rdr W1 w' b lo ok2 dv zs p2) (hgr : wr.grownBy w' (some b)) : Rl W1 w w' b lo dv zs C ok2 p2 :=
  ⟨hr, (hgr.block _ h.res.lt (by have := h.lt; simp; omega)).trans h.res, (hgr.block _ h.blk.lt (by have := h.lt; simp; omega)).trans h.blk, h.lt, h.far, grownBy_trans h.gr hgr⟩
theorem Rl.under {W1 w wr w' : World} {b lo : Nat} {dv : Value} {zs : List Int} {C : Array Value} {okr : Bool} {pr : Nat} (h : Rl W1 w wr b lo dv zs C okr pr) (hb : Below wr.heap.size wr w') : Rl W1 w w' b lo dv zs C okr pr :=
  ⟨h.rdr.below hb, h.res.below hb h.res.lt, h.blk.below hb h.blk.lt, h.lt, h.far, grown_below h.gr hb⟩
theorem Rl.tch {W1 w wr w' : World} {b lo : Nat} {dv : Value} {zs : List Int} {C : Array Value} {okr ok2 : Bool} {pr : Nat} (h : Rl W1 w wr b lo dv zs C okr pr) (hc : Ck w' b lo 21 ok2) (ht : Tch b wr w') : Rl W1 w w' b lo dv zs C ok2 pr :=
  h.onward (h.rdr.tch hc ht) ht.1
theorem Rl.put {W1 w wr : World} {b lo : Nat} {dv : Value} {zs : List Int} {C : Array Value} {okr : Bool} {pr : Nat} (h : Rl W1 w wr b lo dv zs C okr pr) (k : Nat) (x : Value) : Rl W1 w (wr.setCell ⟨w.heap.size + 1, k, none⟩ x) b lo dv zs (C.setIfInBounds k x) okr pr :=
  ⟨h.rdr.aside (grown_cell _ _ _ _) (by have := h.lt; omega) h.far, h.res.other _ _ (by simp), h.blk.set k x, h.lt, h.far, grown_new h.gr (grown_cell _ _ _ _) (by omega)⟩
theorem Rl.putOp {W1 w wr : World} {b lo : Nat} {dv : Value} {zs : List Int} {okr : Bool} {pr : Nat} {X : Int} (h : Rl W1 w wr b lo dv zs (logC X 0 0 0 0 0 ⟨#[]⟩ ⟨#[]⟩ (.slice none 0 0) (.slice none 0 0)) okr pr) (K A B U G : Int) (p q : ByteArray) (d : Value) : Rl W1 w (wr.setCells (w.heap.size + 1) 1 (opC K A B U G p q d).toList) b lo dv zs (logC X K A B U G p q d (.slice none 0 0)) okr pr := by
  have e : wr.setCells (w.heap.size + 1) 1 (opC K A B U G p q d).toList = ((((((((wr.setCell ⟨w.heap.size + 1, 1, none⟩ (.int .i64 K)).setCell ⟨w.heap.size + 1, 2, none⟩ (.int .i64 A)).setCell ⟨w.heap.size + 1, 3, none⟩ (.int .i64 B)).setCell ⟨w.heap.size + 1, 4, none⟩ (.int .i64 U)).setCell ⟨w.heap.size + 1, 5, none⟩ (.int .i64 G)).setCell ⟨w.heap.size + 1, 6, none⟩ (.string p)).setCell ⟨w.heap.size + 1, 7, none⟩ (.string q)).setCell ⟨w.heap.size + 1, 8, none⟩ d) := rfl
  rw [e]
  clear e
  have h1 := h.put 1 (.int .i64 K)
  have e1 : (logC X 0 0 0 0 0 ⟨#[]⟩ ⟨#[]⟩ (.slice none 0 0) (.slice none 0 0)).setIfInBounds 1 (.int .i64 K) = logC X K 0 0 0 0 ⟨#[]⟩ ⟨#[]⟩ (.slice none 0 0) (.slice none 0 0) := rfl
  rw [e1] at h1
  have h2 := h1.put 2 (.int .i64 A)
  have e2 : (logC X K 0 0 0 0 ⟨#[]⟩ ⟨#[]⟩ (.slice none 0 0) (.slice none 0 0)).setIfInBounds 2 (.int .i64 A) = logC X K A 0 0 0 ⟨#[]⟩ ⟨#[]⟩ (.slice none 0 0) (.slice none 0 0) := rfl
  rw [e2] at h2
  have h3 := h2.put 3 (.int .i64 B)
  have e3 : (logC X K A 0 0 0 ⟨#[]⟩ ⟨#[]⟩ (.slice none 0 0) (.slice none 0 0)).setIfInBounds 3 (.int .i64 B) = logC X K A B 0 0 ⟨#[]⟩ ⟨#[]⟩ (.slice none 0 0) (.slice none 0 0) := rfl
  rw [e3] at h3
  have h4 := h3.put 4 (.int .i64 U)
  have e4 : (logC X K A B 0 0 ⟨#[]⟩ ⟨#[]⟩ (.slice none 0 0) (.slice none 0 0)).setIfInBounds 4 (.int .i64 U) = logC X K A B U 0 ⟨#[]⟩ ⟨#[]⟩ (.slice none 0 0) (.slice none 0 0) := rfl
  rw [e4] at h4
  have h5 := h4.put 5 (.int .i64 G)
  have e5 : (logC X K A B U 0 ⟨#[]⟩ ⟨#[]⟩ (.slice none 0 0) (.slice none 0 0)).setIfInBounds 5 (.int .i64 G) = logC X K A B U G ⟨#[]⟩ ⟨#[]⟩ (.slice none 0 0) (.slice none 0 0) := rfl
  rw [e5] at h5
  have h6 := h5.put 6 (.string p)
  have e6 : (logC X K A B U G ⟨#[]⟩ ⟨#[]⟩ (.slice none 0 0) (.slice none 0 0)).setIfInBounds 6 (.string p) = logC X K A B U G p ⟨#[]⟩ (.slice none 0 0) (.slice none 0 0) := rfl
  rw [e6] at h6
  have h7 := h6.put 7 (.string q)
  have e7 : (logC X K A B U G p ⟨#[]⟩ (.slice none 0 0) (.slice none 0 0)).setIfInBounds 7 (.string q) = logC X K A B U G p q (.slice none 0 0) (.slice none 0 0) := rfl
  rw [e7] at h7
  have h8 := h7.put 8 d
  have e8 : (logC X K A B U G p q (.slice none 0 0) (.slice none 0 0)).setIfInBounds 8 d = logC X K A B U G p q d (.slice none 0 0) := rfl
  rw [e8] at h8
  exact h8
theorem cells_grownL {b : Nat} : ∀ (vs : List Value) (w : World) (o : Nat), w.grownBy (w.setCells b o vs) (some b)
  | [], w, o => World.grownBy.refl _ _
  | v :: vs, w, o => grownBy_trans (grown_cell w b o v) (cells_grownL vs _ _)
theorem drew_cell {W : World} {a : Addr} {v : Value} (h : W.cell? a = some v) : W.drew.cell? a = some v := (((Below.refl W.heap.size W).drew).cell (p := a) (cell_lt h)).trans h
theorem setRow_grownL (W : World) (g : Nat) (cs : Array Value) : W.grownBy (W.setRow g cs) (some g) :=
  ⟨rfl, rfl, rfl, by simp [World.setRow], fun k hk hne => setRow_block W g cs k (fun e => hne (by rw [e]))⟩
theorem infoLg : (Tryz.prog.info? 72).map (·.size) = some 10 := by kernel_rfl
theorem logC_one (n K A B U G : Int) (p q : ByteArray) (a : Option Addr) (m c : Nat) (a' : Option Addr) (m' c' : Nat) : (logC n K A B U G p q (.slice a m c) (.slice a' m' c')).all (·.oneCell') = true := by
  unfold logC
  rw [Array.all_eq_true_iff_forall_mem]
  intro v hv
  simp only [List.mem_toArray, List.mem_cons, List.not_mem_nil, or_false] at hv
  rcases hv with rfl | rfl | rfl | rfl | rfl | rfl | rfl | rfl | rfl | rfl <;> rfl
theorem own_shapeL {w : World} {base : Nat} {e : TypeId} {sz : Nat} {v : Value} {n : Nat} {xs : List Value} (h : w.ownsRow base e sz v n xs) : ∃ a cap, v = .slice a n cap := by
  rcases h.2 with ⟨rfl, rfl⟩ | ⟨g, cap, _, rfl, _⟩
  · exact ⟨_, _, rfl⟩
  · exact ⟨_, _, rfl⟩
end Go.Proofs.YtohmjfagbhnieaaGreatDoor
