/- The model's EncodeRoot. The model joins byte strings and fills them up: l02Join, l02Fill. Bytes drawn: Bytes. MayAccess of the program and of the model: the three bits of the mode that count. -/
import Derived.Test.YtohmjfagbhnieaaGreatDoorZl04
import Derived.Test.YtohmjfagbhnieaaGreatDoorZl08
import Derived.Test.YtohmjfagbhnieaaGreatDoorZl01
import Derived.Test.YtohmjfagbhnieaaGreatDoorZl02
namespace Go.Proofs.YtohmjfagbhnieaaGreatDoor
set_option linter.unusedVariables false
set_option linter.unusedSimpArgs false
open Go.RowKit

def bytesR (s : Int) (ds : List Int) (p q : Int) : List Int := le 8 s.toNat ++ bytesW (ds ++ [p, q])
def encR (s : Int) (ds : List Int) (p q : Int) : List Int := if rightR s ds p q = true then bytesR s ds p q else []
def codeR (s : Int) (ds : List Int) (p q : Int) : Int := if rightR s ds p q = true then 0 else 7
theorem bytesR_len (s : Int) (ds : List Int) (p q : Int) (hd : ds.length = 12) : (bytesR s ds p q).length = 64 := by
  unfold bytesR
  rw [List.length_append, le_len, bytesW_len]
  simp [hd]
theorem encR_len (s : Int) (ds : List Int) (p q : Int) (hd : ds.length = 12) : (encR s ds p q).length ≤ 64 := by
  unfold encR
  split
  · rw [bytesR_len s ds p q hd]; omega
  · simp
theorem right_bd {s : Int} {ds : List Int} {p q : Int} (hd : ds.length = 12) (h : rightR s ds p q = true) : (0 ≤ s ∧ s ≤ 262144) ∧ ∀ z ∈ ds ++ [p, q], 0 ≤ z ∧ z < 2048 := by
  unfold rightR at h
  rw [Bool.and_eq_true, Bool.and_eq_true] at h
  refine ⟨⟨by simpa using h.1.1, by simpa using h.1.2⟩, fun z hz => ?_⟩
  obtain ⟨i, hi, rfl⟩ := List.getElem_of_mem hz
  have h2 := h.2
  unfold allR at h2
  rw [List.all_eq_true] at h2
  have h3 := h2 i (by simp at hi ⊢; omega)
  unfold okAt at h3
  rw [Bool.and_eq_true] at h3
  have h4 := h3.1
  have e : (ds ++ [p, q]).getD i 0 = (ds ++ [p, q])[i] := by rw [List.getD, List.getElem?_eq_getElem hi, Option.getD_some]
  rw [e] at h4
  unfold ptrB at h4
  simp at h4
  omega

end Go.Proofs.YtohmjfagbhnieaaGreatDoor

namespace Go.Proofs.YtohmjfagbhnieaaGreatDoor
set_option linter.unusedVariables false
set_option linter.unusedSimpArgs false
open Go.RowKit

/-- Slices that read as byte strings, one by one. -/
def AllRd (w : World) : List Value → List (List Int) → Prop
  | [], [] => True
  | v :: vs, b :: bs => Rd .u8 w v b ∧ AllRd w vs bs
  | _, _ => False
theorem AllRd.below {w w' : World} (hb : Below w.heap.size w w') : ∀ {vs : List Value} {bs : List (List Int)}, AllRd w vs bs → AllRd w' vs bs
  | [], [], _ => trivial
  | _ :: _, _ :: _, h => ⟨h.1.below hb, AllRd.below hb h.2⟩
  | [], _ :: _, h => h.elim
  | _ :: _, [], h => h.elim
theorem AllRd.snoc {w : World} {v : Value} {b : List Int} (hv : Rd .u8 w v b) : ∀ {vs : List Value} {bs : List (List Int)}, AllRd w vs bs → AllRd w (vs ++ [v]) (bs ++ [b])
  | [], [], _ => ⟨hv, trivial⟩
  | _ :: _, _ :: _, h => ⟨h.1, AllRd.snoc hv h.2⟩
  | [], _ :: _, h => h.elim
  | _ :: _, [], h => h.elim
theorem AllRd.next {w w' : World} {base : Nat} {e : TypeId} {n : Nat} {v : Value} {b : List Int} {vs : List Value} {bs : List (List Int)} (h : AllRd w vs bs) (ho : w'.ownsRow base e 1 v n (b.map (Value.int .u8))) (hb : Below w.heap.size w w') : AllRd w' (vs ++ [v]) (bs ++ [b]) :=
  (h.below hb).snoc (Rd.own ho)
theorem AllRd.len {w : World} : ∀ {vs : List Value} {bs : List (List Int)}, AllRd w vs bs → vs.length = bs.length
  | [], [], _ => rfl
  | _ :: _, _ :: _, h => by simp [AllRd.len h.2]
  | [], _ :: _, h => h.elim
  | _ :: _, [], h => h.elim
theorem AllRd.at {w : World} : ∀ {vs : List Value} {bs : List (List Int)} (k : Nat), AllRd w vs bs → k < bs.length → ∃ v, vs[k]? = some v ∧ Rd .u8 w v (bs.getD k [])
  | v :: vs, b :: bs, 0, h, _ => ⟨v, rfl, h.1⟩
  | v :: vs, b :: bs, k + 1, h, hk => by
    obtain ⟨u, h1, h2⟩ := AllRd.at k h.2 (by simpa using hk)
    exact ⟨u, by simpa using h1, by simpa using h2⟩
  | [], [], k, _, hk => by simp at hk
  | [], _ :: _, _, h, _ => h.elim
  | _ :: _, [], _, h, _ => h.elim
theorem flatten_take {α : Type} (bs : List (List α)) (k : Nat) (h : k < bs.length) : (bs.take (k + 1)).flatten = (bs.take k).flatten ++ bs.getD k [] := by
  rw [List.take_succ_eq_append_getElem h, List.flatten_append]
  simp [List.getD, h]
theorem take_flat_len {α : Type} (bs : List (List α)) (k : Nat) : (bs.take k).flatten.length ≤ bs.flatten.length := by
  conv => rhs; rw [← List.take_append_drop k bs, List.flatten_append, List.length_append]
  omega

set_option maxRecDepth 100000 in
set_option maxHeartbeats 1000000 in
theorem join_any (g n c : Nat) (vs : List Value) (bs : List (List Int)) (w : World) (hcell : ∀ j v, vs[j]? = some v → w.cell? ⟨g, j, none⟩ = some v) (hall : AllRd w vs bs) (hn : bs.length = n) (hn2 : n ≤ 1000) (hpos : ∀ b ∈ bs, 0 < b.length) (htot : bs.flatten.length ≤ 100000) (hg : g < w.heap.size) :
    Calls Tryz.prog 24 #[.slice (some ⟨g, 0, none⟩) n c] w fun e w' => ∃ v', e = .returned v' ∧ w'.ownsRow w.heap.size 5 1 v' bs.flatten.length (bs.flatten.map (Value.int .u8)) ∧ Below w.heap.size w w' := by
  obtain ⟨i0, hi, hz0, hz1', hz2⟩ := info_parts infoU8
  have HC := hide (And.intro hcell (And.intro hall (And.intro hpos (And.intro hn htot))))
  have H0 := hide (own_empty w 5)
  have hb0 := hide (show Below w.heap.size w (w.alloc (.cells #[] 5)) from (Below.refl _ _).alloc (Nat.le_refl _) _)
  clear hcell hall hpos hn htot
  go_enter Tryz.func24, Tryz.ntmps24
  go_wp2
  go_loopw [3, 9] (fun o i wr => ∃ k : Nat, k ≤ n ∧ i = .int .i64 k ∧ wr.ownsRow w.heap.size 5 1 o (bs.take k).flatten.length ((bs.take k).flatten.map (Value.int .u8)) ∧ Below w.heap.size w wr) (fun _ i _ => n - (intOf i).toNat)
  case atStart => exact ⟨0, by omega, rfl, by simpa using H0.out, hb0.out⟩
  case round =>
    clear H0 hb0
    obtain ⟨k, hk, rfl, hown, hb⟩ := hrel
    have hsz := hb.size
    by_cases hlt : k < n
    · obtain ⟨v, hv, hr⟩ := HC.out.2.1.at k (by rw [HC.out.2.2.2.1]; exact hlt)
      have hbk : 0 < (bs.getD k []).length := HC.out.2.2.1 _ (by
        have := HC.out.2.2.2.1
        have hk2 : k < bs.length := by omega
        simp [List.getD, hk2])
      have HT := hide (flatten_take bs k (by rw [HC.out.2.2.2.1]; exact hlt))
      have hle : (bs.take k).flatten.length + (bs.getD k []).length ≤ 100000 := by
        have h1 := take_flat_len bs (k + 1)
        rw [HT.out, List.length_append] at h1
        have := HC.out.2.2.2.2
        omega
      have c1 : wr.cell? ⟨g, k, none⟩ = some v := (hb.cell (p := ⟨g, k, none⟩) hg).trans (HC.out.1 k v hv)
      generalize bs.getD k [] = z at hr HT hbk hle
      obtain ⟨bd, off, cp, rfl, hbw, _, _, hcell3⟩ := (hr.below hb).partsC hbk
      have HX := hide (show ∀ (j : Nat) (u : Value), (z.map (Value.int .u8))[j]? = some u → wr.cell? ((⟨bd, off, none⟩ : Addr).add j) = some u from fun j u hj => by
        have hjl : j < z.length := by
          rcases Nat.lt_or_ge j z.length with h | h
          · exact h
          · rw [List.getElem?_eq_none (by simpa using h)] at hj; cases hj
        have ea : (⟨bd, off, none⟩ : Addr).add j = ⟨bd, off + j, none⟩ := by unfold Addr.add; split <;> simp_all
        rw [ea, hcell3 j hjl]
        rw [List.getElem?_map, List.getElem?_eq_getElem hjl] at hj
        simp at hj
        rw [← hj]
        simp [List.getD, hjl])
      have HO := hide (And.intro hown hb)
      clear hcell3 hr hown hb hv
      go_wp2_with (at_builtin; refine append_fresh _ rfl (.tmp 13) (.tmp 14) 22 rfl w.heap.size 5 i0 (.int .u8 0) 1 1 Tryz.underlying22 hi hz0 hz1' hz2 rfl (by decide) _ _ _ rfl HO.out.1 ⟨bd, off, none⟩ z.length cp (z.map (Value.int .u8)) rfl (by simp) HX.out (ints_oneCell _ _) hbk (by unfold maxLen; omega) (by omega) (by omega) ?_; intro v4 w4 o4 g4 f4)
      have HW := hide (show w4.ownsRow w.heap.size 5 1 v4 (bs.take (k + 1)).flatten.length ((bs.take (k + 1)).flatten.map (Value.int .u8)) ∧ Below w.heap.size w w4 from by
        refine ⟨?_, HO.out.2.grown g4 (by omega) (fun r h => (HO.out.1.lt r h).1)⟩
        rw [HT.out, List.map_append, List.length_append]
        exact o4)
      clear o4 g4 f4
      go_roundw
      case rel => exact ⟨k + 1, by omega, by go_num, HW.out.1, HW.out.2⟩
      case measure => simp [intOf]; omega
    · have HO := hide (And.intro hown hb)
      have e : k = n := by omega
      clear hown hb
      go_wp2
      go_ret
      have h2 := HO.out
      rw [List.take_of_length_le (by rw [HC.out.2.2.2.1]; omega)] at h2
      exact ⟨_, rfl, h2.1, h2.2⟩

set_option maxRecDepth 100000 in
set_option maxHeartbeats 1000000 in
theorem fill_any (v : Value) (zs : List Int) (n : Nat) (w : World) (h : Rd .u8 w v zs) (h0 : 0 < zs.length) (h1 : zs.length ≤ n) (h2 : n ≤ 100000) :
    Calls Tryz.prog 40 #[v, .int .i64 n] w fun e w' => ∃ v', e = .returned v' ∧ w'.ownsRow w.heap.size 5 1 v' n ((zs ++ List.replicate (n - zs.length) 0).map (Value.int .u8)) ∧ Below w.heap.size w w' := by
  obtain ⟨i0, hi, hz0, hz1', hz2⟩ := info_parts infoU8
  obtain ⟨bd, off, cp, rfl, hbw, _, _, hcell3⟩ := h.partsC h0
  have HB0 := hide (show Below w.heap.size w (w.alloc (.cells #[] 5)) from (Below.refl _ _).alloc (Nat.le_refl _) _)
  have HX := hide (show ∀ (j : Nat) (u : Value), (zs.map (Value.int .u8))[j]? = some u → (w.alloc (.cells #[] 5)).cell? ((⟨bd, off, none⟩ : Addr).add j) = some u from fun j u hj => by
    have hjl : j < zs.length := by
      rcases Nat.lt_or_ge j zs.length with h | h
      · exact h
      · rw [List.getElem?_eq_none (by simpa using h)] at hj; cases hj
    have ea : (⟨bd, off, none⟩ : Addr).add j = ⟨bd, off + j, none⟩ := by unfold Addr.add; split <;> simp_all
    rw [ea, HB0.out.cell (p := ⟨bd, off + j, none⟩) hbw, hcell3 j hjl]
    rw [List.getElem?_map, List.getElem?_eq_getElem hjl] at hj
    simp at hj
    rw [← hj]
    simp [List.getD, hjl])
  have H0 := hide (own_empty w 5)
  clear h hcell3
  go_enter Tryz.func40, Tryz.ntmps40
  go_wp2_with (at_builtin; refine append_fresh _ rfl (.tmp 6) (.tmp 7) 22 rfl w.heap.size 5 i0 (.int .u8 0) 1 1 Tryz.underlying22 hi hz0 hz1' hz2 rfl (by decide) _ _ _ rfl H0.out ⟨bd, off, none⟩ zs.length cp (zs.map (Value.int .u8)) rfl (by simp) HX.out (ints_oneCell _ _) h0 (by unfold maxLen; omega) (by omega) (by simp) ?_; intro v1 w1 o1 g1 f1)
  have H1 := hide (show w1.ownsRow w.heap.size 5 1 v1 zs.length (zs.map (Value.int .u8)) ∧ Below w.heap.size w w1 from ⟨by simpa using o1, HB0.out.grown g1 (by simp) (fun r h => (H0.out.lt r h).1)⟩)
  clear o1 g1 f1
  go_loopw [5] (fun o wr => ∃ j : Nat, zs.length + j ≤ n ∧ wr.ownsRow w.heap.size 5 1 o (zs.length + j) ((zs ++ List.replicate j 0).map (Value.int .u8)) ∧ Below w.heap.size w wr) (fun o _ => n - (match o with | .slice _ l _ => l | _ => 0))
  case atStart => exact ⟨0, by omega, by simpa using H1.out.1, H1.out.2⟩
  case round =>
    clear H1
    obtain ⟨j, hj, hown, hb⟩ := hrel
    have hsz := hb.size
    rcases hown.2 with ⟨rfl, hn0⟩ | ⟨g, cap, cur, rfl, _⟩
    · omega
    · by_cases hlt : zs.length + j < n
      · have HO := hide (And.intro hown hb)
        clear hown hb
        go_wp2_with (at_builtin; refine append_fresh _ rfl (.tmp 13) (.tmp 14) 22 rfl w.heap.size 5 i0 (.int .u8 0) 1 1 Tryz.underlying22 hi hz0 hz1' hz2 rfl (by decide) _ _ _ rfl (HO.out.1.alloc _) ⟨wr.heap.size, 0, none⟩ 1 1 [.int .u8 0] rfl rfl (cell_one_new _ _ _) (one_u8 _) (by omega) (by unfold maxLen; omega) (by omega) (by simp; omega) ?_; intro v4 w4 o4 g4 f4)
        have HW := hide (show w4.ownsRow w.heap.size 5 1 v4 (zs.length + (j + 1)) ((zs ++ List.replicate (j + 1) 0).map (Value.int .u8)) ∧ Below w.heap.size w w4 from by
          refine ⟨?_, (HO.out.2.alloc hsz _).grown g4 (by simp; omega) (fun r h => (HO.out.1.lt r h).1)⟩
          rw [List.replicate_succ', ← List.append_assoc, List.map_append]
          exact o4)
        have hlen : ∃ a c, v4 = .slice a (zs.length + (j + 1)) c := by
          rcases HW.out.1.2 with ⟨rfl, hn0⟩ | ⟨g, cap, cur, rfl, _⟩
          · omega
          · exact ⟨_, _, rfl⟩
        obtain ⟨a4, c4, rfl⟩ := hlen
        clear o4 g4 f4
        go_roundw
        case rel => exact ⟨j + 1, by omega, HW.out.1, HW.out.2⟩
        case measure => show n - (zs.length + (j + 1)) < n - (zs.length + j); omega
      · have HO := hide (And.intro hown hb)
        clear hown hb
        go_wp2
        go_ret
        have h3 := HO.out
        have e : j = n - zs.length := by omega
        rw [show zs.length + j = n by omega, e] at h3
        exact ⟨_, rfl, by rw [show zs.length + j = n by omega]; exact h3.1, h3.2⟩
end Go.Proofs.YtohmjfagbhnieaaGreatDoor

namespace Go.Proofs.YtohmjfagbhnieaaGreatDoor
set_option linter.unusedVariables false
set_option linter.unusedSimpArgs false
open Go.RowKit

/-- Bytes. -/
def Byt (zs : List Int) : Prop := ∀ z ∈ zs, 0 ≤ z ∧ z < 256
theorem Byt.nil : Byt [] := by intro z hz; cases hz
theorem Byt.snoc {zs : List Int} {z : Int} (h : Byt zs) (h0 : 0 ≤ z) (h1 : z < 256) : Byt (zs ++ [z]) := by
  intro y hy
  rcases List.mem_append.mp hy with hy | hy
  · exact h y hy
  · rw [List.mem_singleton.mp hy]; exact ⟨h0, h1⟩

set_option maxRecDepth 100000 in
set_option maxHeartbeats 4000000 in
theorem bytes_drawn {w0 W : World} {b : Nat} {cv : Value} {cs : List Int} (h : Sc w0 W b cv cs) (n : Nat) (hn : n ≤ 1048576) :
    Calls Tryz.prog 14 #[.pointer (some ⟨b, 0, none⟩), .int .i64 (n : Int)] W fun e w' => ∃ (v : Value) (zs : List Int), e = .returned v ∧ zs.length = n ∧ Byt zs ∧ w'.ownsRow W.heap.size 5 1 v n (zs.map (Value.int .u8)) ∧ Sc w0 w' b cv cs ∧ W.grownBy w' (some b) := by
  obtain ⟨i0, hi, hz0, hz1, hz2⟩ := info_parts infoU8
  have HD := hide (Dn.start h)
  clear h
  have H0 := hide (And.intro (HD.out.own (show Below W.heap.size W (W.alloc (.cells #[] 5)) from (Below.refl _ _).alloc (Nat.le_refl _) _)) (own_empty W 5))
  clear HD
  go_enter Tryz.func14, Tryz.ntmps14
  go_wp2
  go_loopw [5, 6] (fun v i wr => ∃ (k : Nat) (zs : List Int), k ≤ n ∧ i = .int .i64 k ∧ zs.length = k ∧ Byt zs ∧ Dn w0 W wr b cv cs ∧ wr.ownsRow W.heap.size 5 1 v k (zs.map (Value.int .u8))) (fun _ i _ => n - (intOf i).toNat)
  case atStart => exact ⟨0, [], by omega, rfl, rfl, Byt.nil, H0.out.1, H0.out.2⟩
  case round =>
    clear H0
    obtain ⟨k, zs, hk, rfl, hl, hB, hd, ho⟩ := hrel
    have HK := hide (And.intro hd ho)
    have HB := hide (And.intro hl hB)
    clear hd ho hl hB
    by_cases hkn : k < n
    · go_wp2_with fail
      refine (HK.out.1.sc.N 256 (by omega) (by omega)).mono ?_
      rintro e w2 ⟨z, rfl, hy0, hy1, s2, d2⟩
      have HM := hide (And.intro (HK.out.1.draw s2 d2) (HK.out.1.row HK.out.2 d2 (Nat.le_refl _)))
      have HLE := hide HM.out.1.gb.size
      clear s2 d2 HK
      go_wp2_with (first | (at_builtin; refine append_fresh _ rfl (.tmp 13) (.tmp 17) 22 rfl W.heap.size 5 i0 (.int .u8 0) 1 1 Tryz.underlying22 hi hz0 hz1 hz2 rfl (by decide) _ _ _ rfl (HM.out.2.alloc _) ⟨w2.heap.size, 0, none⟩ 1 1 [.int .u8 z] rfl rfl (cell_one_new _ _ _) (one_u8 _) (by omega) (by unfold maxLen; omega) (by omega) (by have := HLE.out; simp; omega) ?_; intro v7 w7 o7 g7 f7; have O7 := hide o7; have G7 := hide g7; clear o7 g7 f7) | fail)
      have HW := hide (show Dn w0 W w7 b cv cs ∧ w7.ownsRow W.heap.size 5 1 v7 (k + 1) ((zs ++ [z]).map (Value.int .u8)) from ⟨HM.out.1.grew HM.out.2 G7.out (Nat.le_refl _), by rw [List.map_append]; exact O7.out⟩)
      have HC := hide (And.intro (show (zs ++ [z]).length = k + 1 by rw [List.length_append, HB.out.1]; rfl) (HB.out.2.snoc hy0 (by omega)))
      clear HM O7 G7 HB
      go_roundw
      case rel => exact ⟨k + 1, _, by omega, by go_num, HC.out.1, HC.out.2, HW.out.1, HW.out.2⟩
      case measure => simp [intOf]; omega
    · obtain rfl : k = n := by omega
      go_wp2
      go_ret
      exact ⟨_, _, rfl, HB.out.1, HB.out.2, HK.out.2, HK.out.1.sc, HK.out.1.gb⟩
end Go.Proofs.YtohmjfagbhnieaaGreatDoor

namespace Go.Proofs.YtohmjfagbhnieaaGreatDoor
set_option linter.unusedVariables false
set_option linter.unusedSimpArgs false
open Go.RowKit

/-- A node's value: nine integers and its bytes. -/
abbrev nodeV (k l m u g p e t c : Int) (v : Value) : Value := .agg #[.int .i64 k, .int .i64 l, .int .i64 m, .int .i64 u, .int .i64 g, .int .i64 p, .int .i64 e, .int .i64 t, .int .i64 c, v]

/-- All bits of want (0 to 7) are in the lowest three of m. -/
def accB (m want : Int) : Bool := (want.toNat &&& (7 - (m % 8).toNat)) == 0
def mayB (m u g uid gid want : Int) : Bool :=
  if want < 0 ∨ 7 < want then false else if uid = 0 then true else accB (if uid = u then m / 64 else if gid = g then m / 8 else m) want

theorem natB (n : Nat) : ((n : Int) == 0) = (n == 0) := by cases n <;> rfl
theorem low3 : ∀ (c x : Nat), c < 8 → c &&& x = c &&& (x % 8) := by
  intro c x hc
  have h1 : c = c &&& 7 := by
    have : c % 8 = c := Nat.mod_eq_of_lt hc
    rw [show (7 : Nat) = 2 ^ 3 - 1 from rfl, Nat.and_two_pow_sub_one_eq_mod]; omega
  have h2 : x % 8 = 7 &&& x := by
    rw [Nat.and_comm, show (7 : Nat) = 2 ^ 3 - 1 from rfl, Nat.and_two_pow_sub_one_eq_mod]
  rw [h2, ← Nat.and_assoc, ← h1]
theorem andNot_low (c : Nat) (hc : c < 8) (m : Int) : bits .andNot .i64 (c : Int) m = ((c &&& (7 - (m % 8).toNat) : Nat) : Int) := by
  have hx : ∀ y : Nat, c &&& y < 8 := fun y => by
    have := Nat.and_le_left (n := c) (m := y); omega
  show IntKind.i64.wrap ((BitVec.ofInt 64 (c : Int) &&& ~~~BitVec.ofInt 64 m).toNat : Int) = _
  have e1 : (BitVec.ofInt 64 (c : Int)).toNat = c := by simp [BitVec.toNat_ofInt]; omega
  have e2 : (BitVec.ofInt 64 m).toNat = (m % 18446744073709551616).toNat := by simp [BitVec.toNat_ofInt]
  rw [BitVec.toNat_and, BitVec.toNat_not, e1, e2]
  have e3 : (2 ^ 64 - 1 - (m % 18446744073709551616).toNat) % 8 = 7 - (m % 8).toNat := by omega
  rw [low3 _ _ hc, e3]
  have := hx (7 - (m % 8).toNat)
  generalize c &&& (7 - (m % 8).toNat) = y at this
  simp [IntKind.wrap, IntKind.bits, IntKind.signed]
  omega
theorem and1 (x : Int) : bits .and .i64 x 1 = x % 2 := by
  show IntKind.i64.wrap ((BitVec.ofInt 64 x &&& BitVec.ofInt 64 1).toNat : Int) = _
  have e2 : (BitVec.ofInt 64 x).toNat = (x % 18446744073709551616).toNat := by simp [BitVec.toNat_ofInt]
  have e1 : (BitVec.ofInt 64 1).toNat = 1 := by decide
  rw [BitVec.toNat_and, e1, e2, Nat.and_one_is_mod]
  have h1 : ((x % 18446744073709551616).toNat % 2 : Nat) = (x % 2).toNat := by omega
  rw [h1]
  have h2 : 0 ≤ x % 2 := by omega
  have h3 : x % 2 < 2 := by omega
  generalize x % 2 = y at h2 h3
  simp [IntKind.wrap, IntKind.bits, IntKind.signed]
  omega

theorem bit_ok : ∀ (c y : Nat), c < 8 → y < 8 → (c &&& (7 - y) == 0) = (!(c % 2 == 1 && y % 2 == 0) && !(c / 2 % 2 == 1 && y / 2 % 2 == 0) && !(c / 4 % 2 == 1 && y / 4 % 2 == 0)) := by
  intro c y hc hy
  have h : ∀ c : Fin 8, ∀ y : Fin 8, (c.1 &&& (7 - y.1) == 0) = (!(c.1 % 2 == 1 && y.1 % 2 == 0) && !(c.1 / 2 % 2 == 1 && y.1 / 2 % 2 == 0) && !(c.1 / 4 % 2 == 1 && y.1 / 4 % 2 == 0)) := by decide
  exact h ⟨c, hc⟩ ⟨y, hy⟩
/-- Bit p of want isn't asked, or is in m. -/
def bitOk (m want : Int) (p : Nat) : Bool := !(want / 2 ^ p % 2 == 1 && m / 2 ^ p % 2 == 0)
theorem acc_bits (m want : Int) (h0 : 0 ≤ want) (h7 : want ≤ 7) : accB m want = (bitOk m want 0 && bitOk m want 1 && bitOk m want 2) := by
  unfold accB
  rw [bit_ok _ _ (by omega) (by omega)]
  unfold bitOk
  have e : ∀ a b : Int, ∀ x y : Nat, (a = (x : Int)) → (b = (y : Int)) → (!(x == 1 && y == 0)) = (!(a == 1 && b == 0)) := by
    intro a b x y h1 h2
    subst h1; subst h2
    cases x with
    | zero => simp
    | succ n => cases n with
      | zero => simp [natB]
      | succ k => simp; omega
  rw [e (want / 2 ^ 0 % 2) (m / 2 ^ 0 % 2) _ _ (by omega) (by omega), e (want / 2 ^ 1 % 2) (m / 2 ^ 1 % 2) _ _ (by omega) (by omega), e (want / 2 ^ 2 % 2) (m / 2 ^ 2 % 2) _ _ (by omega) (by omega)]

end Go.Proofs.YtohmjfagbhnieaaGreatDoor
