/- The model's EncodeRoot. The model joins byte strings and fills them up: l02Join, l02Fill. An image's size: rightInSize of the program, L01Blocks of the model. The model's l03Data and l03Fault. Where a data block hangs: the model's PlaceOf. -/
import Derived.Test.YtkbbnflblkkepaaGreatDoorZm07
import Derived.Test.YtkbbnflblkkepaaGreatDoorZm02
import Derived.Test.YtkbbnflblkkepaaGreatDoorZm06
import Derived.BigFrame
import Derived.WalkLawsBesides
import Derived.Laws.ResultCell
import Derived.Deep.WholeRow
namespace Go.Proofs.YtkbbnflblkkepaaGreatDoor
set_option linter.unusedVariables false
set_option linter.unusedSimpArgs false
open Go.RowKit

def bytesR (s : Int) (ds : List Int) (p q : Int) : List Int := le 8 s.toNat ++ bytesW (ds ++ [p, q])
def encR (s : Int) (ds : List Int) (p q : Int) : List Int := if rightR s ds p q = true then bytesR s ds p q else []
def codeR (s : Int) (ds : List Int) (p q : Int) : Int := if rightR s ds p q = true then 0 else 7
theorem bytesR_len (s : Int) (ds : List Int) (p q : Int) (hd : ds.length = 12) : (bytesR s ds p q).length = 64 := by
  unfold bytesR
  rw [List.length_append, le_len, bytesW_len]
  simp [hd]
theorem encR_len (s : Int) (ds : List Int) (p q : Int) (hd : ds.length = 12) : (encR s ds p q).length ≤ 64 := by
  unfold encR
  split
  · rw [bytesR_len s ds p q hd]; omega
  · simp
theorem right_bd {s : Int} {ds : List Int} {p q : Int} (hd : ds.length = 12) (h : rightR s ds p q = true) : (0 ≤ s ∧ s ≤ 262144) ∧ ∀ z ∈ ds ++ [p, q], 0 ≤ z ∧ z < 2048 := by
  unfold rightR at h
  rw [Bool.and_eq_true, Bool.and_eq_true] at h
  refine ⟨⟨by simpa using h.1.1, by simpa using h.1.2⟩, fun z hz => ?_⟩
  obtain ⟨i, hi, rfl⟩ := List.getElem_of_mem hz
  have h2 := h.2
  unfold allR at h2
  rw [List.all_eq_true] at h2
  have h3 := h2 i (by simp at hi ⊢; omega)
  unfold okAt at h3
  rw [Bool.and_eq_true] at h3
  have h4 := h3.1
  have e : (ds ++ [p, q]).getD i 0 = (ds ++ [p, q])[i] := by rw [List.getD, List.getElem?_eq_getElem hi, Option.getD_some]
  rw [e] at h4
  unfold ptrB at h4
  simp at h4
  omega

set_option maxRecDepth 100000 in
set_option maxHeartbeats 1000000 in
theorem rootBytes_any (s : Int) (ds : List Int) (p q : Int) (w : World) (hd : ds.length = 12) (hs : 0 ≤ s ∧ s ≤ 262144) (hp : ∀ z ∈ ds ++ [p, q], 0 ≤ z ∧ z < 2048) :
    Calls Tryz.prog 55 #[.agg (cellsI (rootI s ds p q))] w fun e w' => ∃ v', e = .returned v' ∧ w'.ownsRow w.heap.size 5 1 v' 64 ((bytesR s ds p q).map (Value.int .u8)) ∧ Below w.heap.size w w' := by
  obtain ⟨i0, hi, hz0, hz1', hz2⟩ := info_parts infoU8
  have HD := hide hd
  have HZ := hide (show (cellsI (rootI s ds p q)).size = 15 from by rw [cellsI_size]; exact rootI_len s ds p q HD.out)
  have HL := hide (show (ds ++ [p, q]).length = 14 from by simp [HD.out])
  obtain ⟨n, hn⟩ := Int.eq_ofNat_of_zero_le hs.1
  have hn2 : n ≤ 262144 := by omega
  have HN := hide hn
  have HP := hide hp
  have c0 : (w.alloc (.cells (cellsI (rootI s ds p q)) 34)).cell? ⟨w.heap.size, 0, none⟩ = some (.int .i64 (n : Int)) := by
    rw [(Blk.new w _ _).cell 0, ← hn]; rfl
  have hb0 : Below w.heap.size w (w.alloc (.cells (cellsI (rootI s ds p q)) 34)) := (Below.refl _ _).alloc (Nat.le_refl _) _
  clear hd hs hn hp
  go_enter Tryz.func55, Tryz.ntmps55
  go_wp2_with fail
  refine (put_pos n 8 _ (by omega) (by omega) (by omega)).mono ?_
  rintro e w1 ⟨g1, cp1, rfl, o1, b1⟩
  rw [World.size_alloc] at o1
  have hs1 : w.heap.size + 1 ≤ w1.heap.size := by have := b1.size; simpa using this
  have K1 := hide (And.intro o1 (And.intro (hb0.trans (b1.mono hb0.size)) ((Blk.new w (cellsI (rootI s ds p q)) 34).below b1 (by simp))))
  clear o1 b1 hb0 c0
  go_wp2_with (first | (refine wpList_load_row rfl 34 _ rfl w.heap.size rfl 34 (cellsI (rootI s ds p q)) (0, 0) _ K1.out.2.2 Tryz.underlying34 rfl (by rw [HZ.out]; exact info15) ?_) | (go_at_call 58; fail))
  refine (pointers_any s ds p q _ HD.out).mono ?_
  rintro e w2 ⟨v2, rfl, o2, b2⟩
  obtain ⟨bd, off, cap, rfl, hbw, _, _, hcell⟩ := (Rd.own o2).partsC (by rw [HL.out]; omega)
  rw [HL.out] at hcell ⊢
  have HB := hide (K1.out.2.1.trans (b2.mono K1.out.2.1.size))
  have hbd1 : w.heap.size + 1 ≤ bd := by have := (o2.lt bd rfl).1; omega
  have HO := hide (own_below K1.out.1 b2)
  have HG := hide (show ∀ r, (Value.slice (some ⟨g1, 0, none⟩) 8 cp1).ownBlock = some r → r ≠ bd from fun r hr => by have h1 := (K1.out.1.lt r hr).2; have h2 := (o2.lt bd rfl).1; omega)
  have HQ := hide (show bytesR s ds p q = le 8 n ++ bytesW (ds ++ [p, q]) from by unfold bytesR; rw [HN.out]; rfl)
  generalize ds ++ [p, q] = pts at hcell HP HL HQ
  clear o2 b2 K1
  go_wp2
  go_loopw [3, 12] (fun o i wr => ∃ k : Nat, k ≤ 14 ∧ i = .int .i64 k ∧ bd < wr.heap.size ∧ (∀ r, o.ownBlock = some r → r ≠ bd) ∧ (∀ j, j < 14 → wr.cell? ⟨bd, off + j, none⟩ = some (.int .i64 (pts.getD j 0))) ∧ wr.ownsRow (w.heap.size + 1) 5 1 o (8 + 4 * k) ((le 8 n ++ bytesW (pts.take k)).map (Value.int .u8)) ∧ Below w.heap.size w wr) (fun _ i _ => 14 - (intOf i).toNat)
  case atStart => exact ⟨0, by omega, rfl, hbw, HG.out, hcell, by simpa [bytesW] using HO.out, HB.out⟩
  case round =>
    clear hcell hbw HO HB HG
    obtain ⟨k, hk, rfl, hbw, hne, hcell, hown, hb⟩ := hrel
    have hsz := hb.size
    by_cases hlt : k < 14
    · have hkl : k < pts.length := by rw [HL.out]; exact hlt
      have c1 := hcell k hlt
      have hz1 := HP.out (pts.getD k 0) (by simp [List.getD, hkl])
      have HT := hide (bytesW_take pts k hkl)
      have HC := hide (And.intro hcell (And.intro hne (And.intro hown hb)))
      clear hcell hne hown hb hkl
      generalize pts.getD k 0 = z at c1 HT hz1
      obtain ⟨y, rfl⟩ := Int.eq_ofNat_of_zero_le hz1.1
      obtain ⟨_, hy2⟩ := hz1
      have hy : y < 2048 := by omega
      clear hy2
      rw [Int.toNat_natCast] at HT
      go_wp2_with fail
      refine (put_pos y 4 _ (by omega) (by omega) (by omega)).mono ?_
      rintro e w3 ⟨g3, cp3, rfl, o3, b3⟩
      have hs3 := b3.size
      have hop := own_below HC.out.2.2.1 b3
      clear c1
      go_wp2_with (at_builtin; refine append_fresh _ rfl (.tmp 16) (.tmp 18) 22 rfl (w.heap.size + 1) 5 i0 (.int .u8 0) 1 1 Tryz.underlying22 hi hz0 hz1' hz2 rfl (by decide) _ _ _ rfl hop ⟨g3, 0, none⟩ 4 cp3 ((le 4 y).map (Value.int .u8)) rfl (by simp [le_len]) (o3.cells rfl) (ints_oneCell _ _) (by omega) (by unfold maxLen; omega) (by omega) (by omega) ?_; intro v4 w4 o4 g4 f4)
      have HW := hide (show bd < w4.heap.size ∧ (∀ r, v4.ownBlock = some r → r ≠ bd) ∧ (∀ j, j < 14 → w4.cell? ⟨bd, off + j, none⟩ = some (.int .i64 (pts.getD j 0))) ∧ w4.ownsRow (w.heap.size + 1) 5 1 v4 (8 + 4 * (k + 1)) ((le 8 n ++ bytesW (pts.take (k + 1))).map (Value.int .u8)) ∧ Below w.heap.size w w4 from by
        have hs4 := g4.size
        refine ⟨by omega, ?_, ?_, ?_, ?_⟩
        · intro r hr
          rcases f4 r hr with h | h
          · exact HC.out.2.1 r h
          · omega
        · intro j hj
          have h3 := (b3.cell (p := ⟨bd, off + j, none⟩) hbw).trans (HC.out.1 j hj)
          exact g4.cell h3 (fun e => HC.out.2.1 bd e.symm rfl)
        · rw [HT.out, ← List.append_assoc, List.map_append, show 8 + 4 * (k + 1) = 8 + 4 * k + 4 from by omega]
          exact o4
        · exact (HC.out.2.2.2.trans (b3.mono hsz)).grown g4 (by omega) (fun r h => by have := (hop.lt r h).1; omega))
      clear o3 b3 hop o4 g4 f4
      go_roundw
      case rel => exact ⟨k + 1, by omega, by go_num, HW.out.1, HW.out.2.1, HW.out.2.2.1, HW.out.2.2.2.1, HW.out.2.2.2.2⟩
      case measure => simp [intOf]; omega
    · have e14 : k = 14 := by omega
      subst e14
      have HC := hide (And.intro hown hb)
      clear hcell hne hown hb
      go_wp2
      go_ret
      refine ⟨_, rfl, ?_, HC.out.2⟩
      have ho := HC.out.1
      rw [List.take_of_length_le (by rw [HL.out]; omega), ← HQ.out] at ho
      exact own_mono ho (by omega)

end Go.Proofs.YtkbbnflblkkepaaGreatDoor

namespace Go.Proofs.YtkbbnflblkkepaaGreatDoor
set_option linter.unusedVariables false
set_option linter.unusedSimpArgs false
open Go.RowKit

/-- Slices that read as byte strings, one by one. -/
def AllRd (w : World) : List Value → List (List Int) → Prop
  | [], [] => True
  | v :: vs, b :: bs => Rd .u8 w v b ∧ AllRd w vs bs
  | _, _ => False
theorem AllRd.below {w w' : World} (hb : Below w.heap.size w w') : ∀ {vs : List Value} {bs : List (List Int)}, AllRd w vs bs → AllRd w' vs bs
  | [], [], _ => trivial
  | _ :: _, _ :: _, h => ⟨h.1.below hb, AllRd.below hb h.2⟩
  | [], _ :: _, h => h.elim
  | _ :: _, [], h => h.elim
theorem AllRd.snoc {w : World} {v : Value} {b : List Int} (hv : Rd .u8 w v b) : ∀ {vs : List Value} {bs : List (List Int)}, AllRd w vs bs → AllRd w (vs ++ [v]) (bs ++ [b])
  | [], [], _ => ⟨hv, trivial⟩
  | _ :: _, _ :: _, h => ⟨h.1, AllRd.snoc hv h.2⟩
  | [], _ :: _, h => h.elim
  | _ :: _, [], h => h.elim
theorem AllRd.next {w w' : World} {base : Nat} {e : TypeId} {n : Nat} {v : Value} {b : List Int} {vs : List Value} {bs : List (List Int)} (h : AllRd w vs bs) (ho : w'.ownsRow base e 1 v n (b.map (Value.int .u8))) (hb : Below w.heap.size w w') : AllRd w' (vs ++ [v]) (bs ++ [b]) :=
  (h.below hb).snoc (Rd.own ho)
theorem AllRd.len {w : World} : ∀ {vs : List Value} {bs : List (List Int)}, AllRd w vs bs → vs.length = bs.length
  | [], [], _ => rfl
  | _ :: _, _ :: _, h => by simp [AllRd.len h.2]
  | [], _ :: _, h => h.elim
  | _ :: _, [], h => h.elim
theorem AllRd.at {w : World} : ∀ {vs : List Value} {bs : List (List Int)} (k : Nat), AllRd w vs bs → k < bs.length → ∃ v, vs[k]? = some v ∧ Rd .u8 w v (bs.getD k [])
  | v :: vs, b :: bs, 0, h, _ => ⟨v, rfl, h.1⟩
  | v :: vs, b :: bs, k + 1, h, hk => by
    obtain ⟨u, h1, h2⟩ := AllRd.at k h.2 (by simpa using hk)
    exact ⟨u, by simpa using h1, by simpa using h2⟩
  | [], [], k, _, hk => by simp at hk
  | [], _ :: _, _, h, _ => h.elim
  | _ :: _, [], _, h, _ => h.elim
theorem flatten_take {α : Type} (bs : List (List α)) (k : Nat) (h : k < bs.length) : (bs.take (k + 1)).flatten = (bs.take k).flatten ++ bs.getD k [] := by
  rw [List.take_succ_eq_append_getElem h, List.flatten_append]
  simp [List.getD, h]
theorem take_flat_len {α : Type} (bs : List (List α)) (k : Nat) : (bs.take k).flatten.length ≤ bs.flatten.length := by
  conv => rhs; rw [← List.take_append_drop k bs, List.flatten_append, List.length_append]
  omega

set_option maxRecDepth 100000 in
set_option maxHeartbeats 1000000 in
theorem join_any (g n c : Nat) (vs : List Value) (bs : List (List Int)) (w : World) (hcell : ∀ j v, vs[j]? = some v → w.cell? ⟨g, j, none⟩ = some v) (hall : AllRd w vs bs) (hn : bs.length = n) (hn2 : n ≤ 1000) (hpos : ∀ b ∈ bs, 0 < b.length) (htot : bs.flatten.length ≤ 100000) (hg : g < w.heap.size) :
    Calls Tryz.prog 53 #[.slice (some ⟨g, 0, none⟩) n c] w fun e w' => ∃ v', e = .returned v' ∧ w'.ownsRow w.heap.size 5 1 v' bs.flatten.length (bs.flatten.map (Value.int .u8)) ∧ Below w.heap.size w w' := by
  obtain ⟨i0, hi, hz0, hz1', hz2⟩ := info_parts infoU8
  have HC := hide (And.intro hcell (And.intro hall (And.intro hpos (And.intro hn htot))))
  have H0 := hide (own_empty w 5)
  have hb0 := hide (show Below w.heap.size w (w.alloc (.cells #[] 5)) from (Below.refl _ _).alloc (Nat.le_refl _) _)
  clear hcell hall hpos hn htot
  go_enter Tryz.func53, Tryz.ntmps53
  go_wp2
  go_loopw [3, 9] (fun o i wr => ∃ k : Nat, k ≤ n ∧ i = .int .i64 k ∧ wr.ownsRow w.heap.size 5 1 o (bs.take k).flatten.length ((bs.take k).flatten.map (Value.int .u8)) ∧ Below w.heap.size w wr) (fun _ i _ => n - (intOf i).toNat)
  case atStart => exact ⟨0, by omega, rfl, by simpa using H0.out, hb0.out⟩
  case round =>
    clear H0 hb0
    obtain ⟨k, hk, rfl, hown, hb⟩ := hrel
    have hsz := hb.size
    by_cases hlt : k < n
    · obtain ⟨v, hv, hr⟩ := HC.out.2.1.at k (by rw [HC.out.2.2.2.1]; exact hlt)
      have hbk : 0 < (bs.getD k []).length := HC.out.2.2.1 _ (by
        have := HC.out.2.2.2.1
        have hk2 : k < bs.length := by omega
        simp [List.getD, hk2])
      have HT := hide (flatten_take bs k (by rw [HC.out.2.2.2.1]; exact hlt))
      have hle : (bs.take k).flatten.length + (bs.getD k []).length ≤ 100000 := by
        have h1 := take_flat_len bs (k + 1)
        rw [HT.out, List.length_append] at h1
        have := HC.out.2.2.2.2
        omega
      have c1 : wr.cell? ⟨g, k, none⟩ = some v := (hb.cell (p := ⟨g, k, none⟩) hg).trans (HC.out.1 k v hv)
      generalize bs.getD k [] = z at hr HT hbk hle
      obtain ⟨bd, off, cp, rfl, hbw, _, _, hcell3⟩ := (hr.below hb).partsC hbk
      have HX := hide (show ∀ (j : Nat) (u : Value), (z.map (Value.int .u8))[j]? = some u → wr.cell? ((⟨bd, off, none⟩ : Addr).add j) = some u from fun j u hj => by
        have hjl : j < z.length := by
          rcases Nat.lt_or_ge j z.length with h | h
          · exact h
          · rw [List.getElem?_eq_none (by simpa using h)] at hj; cases hj
        have ea : (⟨bd, off, none⟩ : Addr).add j = ⟨bd, off + j, none⟩ := by unfold Addr.add; split <;> simp_all
        rw [ea, hcell3 j hjl]
        rw [List.getElem?_map, List.getElem?_eq_getElem hjl] at hj
        simp at hj
        rw [← hj]
        simp [List.getD, hjl])
      have HO := hide (And.intro hown hb)
      clear hcell3 hr hown hb hv
      go_wp2_with (at_builtin; refine append_fresh _ rfl (.tmp 13) (.tmp 14) 22 rfl w.heap.size 5 i0 (.int .u8 0) 1 1 Tryz.underlying22 hi hz0 hz1' hz2 rfl (by decide) _ _ _ rfl HO.out.1 ⟨bd, off, none⟩ z.length cp (z.map (Value.int .u8)) rfl (by simp) HX.out (ints_oneCell _ _) hbk (by unfold maxLen; omega) (by omega) (by omega) ?_; intro v4 w4 o4 g4 f4)
      have HW := hide (show w4.ownsRow w.heap.size 5 1 v4 (bs.take (k + 1)).flatten.length ((bs.take (k + 1)).flatten.map (Value.int .u8)) ∧ Below w.heap.size w w4 from by
        refine ⟨?_, HO.out.2.grown g4 (by omega) (fun r h => (HO.out.1.lt r h).1)⟩
        rw [HT.out, List.map_append, List.length_append]
        exact o4)
      clear o4 g4 f4
      go_roundw
      case rel => exact ⟨k + 1, by omega, by go_num, HW.out.1, HW.out.2⟩
      case measure => simp [intOf]; omega
    · have HO := hide (And.intro hown hb)
      have e : k = n := by omega
      clear hown hb
      go_wp2
      go_ret
      have h2 := HO.out
      rw [List.take_of_length_le (by rw [HC.out.2.2.2.1]; omega)] at h2
      exact ⟨_, rfl, h2.1, h2.2⟩

set_option maxRecDepth 100000 in
set_option maxHeartbeats 1000000 in
theorem fill_any (v : Value) (zs : List Int) (n : Nat) (w : World) (h : Rd .u8 w v zs) (h0 : 0 < zs.length) (h1 : zs.length ≤ n) (h2 : n ≤ 100000) :
    Calls Tryz.prog 88 #[v, .int .i64 n] w fun e w' => ∃ v', e = .returned v' ∧ w'.ownsRow w.heap.size 5 1 v' n ((zs ++ List.replicate (n - zs.length) 0).map (Value.int .u8)) ∧ Below w.heap.size w w' := by
  obtain ⟨i0, hi, hz0, hz1', hz2⟩ := info_parts infoU8
  obtain ⟨bd, off, cp, rfl, hbw, _, _, hcell3⟩ := h.partsC h0
  have HB0 := hide (show Below w.heap.size w (w.alloc (.cells #[] 5)) from (Below.refl _ _).alloc (Nat.le_refl _) _)
  have HX := hide (show ∀ (j : Nat) (u : Value), (zs.map (Value.int .u8))[j]? = some u → (w.alloc (.cells #[] 5)).cell? ((⟨bd, off, none⟩ : Addr).add j) = some u from fun j u hj => by
    have hjl : j < zs.length := by
      rcases Nat.lt_or_ge j zs.length with h | h
      · exact h
      · rw [List.getElem?_eq_none (by simpa using h)] at hj; cases hj
    have ea : (⟨bd, off, none⟩ : Addr).add j = ⟨bd, off + j, none⟩ := by unfold Addr.add; split <;> simp_all
    rw [ea, HB0.out.cell (p := ⟨bd, off + j, none⟩) hbw, hcell3 j hjl]
    rw [List.getElem?_map, List.getElem?_eq_getElem hjl] at hj
    simp at hj
    rw [← hj]
    simp [List.getD, hjl])
  have H0 := hide (own_empty w 5)
  clear h hcell3
  go_enter Tryz.func88, Tryz.ntmps88
  go_wp2_with (at_builtin; refine append_fresh _ rfl (.tmp 6) (.tmp 7) 22 rfl w.heap.size 5 i0 (.int .u8 0) 1 1 Tryz.underlying22 hi hz0 hz1' hz2 rfl (by decide) _ _ _ rfl H0.out ⟨bd, off, none⟩ zs.length cp (zs.map (Value.int .u8)) rfl (by simp) HX.out (ints_oneCell _ _) h0 (by unfold maxLen; omega) (by omega) (by simp) ?_; intro v1 w1 o1 g1 f1)
  have H1 := hide (show w1.ownsRow w.heap.size 5 1 v1 zs.length (zs.map (Value.int .u8)) ∧ Below w.heap.size w w1 from ⟨by simpa using o1, HB0.out.grown g1 (by simp) (fun r h => (H0.out.lt r h).1)⟩)
  clear o1 g1 f1
  go_loopw [5] (fun o wr => ∃ j : Nat, zs.length + j ≤ n ∧ wr.ownsRow w.heap.size 5 1 o (zs.length + j) ((zs ++ List.replicate j 0).map (Value.int .u8)) ∧ Below w.heap.size w wr) (fun o _ => n - (match o with | .slice _ l _ => l | _ => 0))
  case atStart => exact ⟨0, by omega, by simpa using H1.out.1, H1.out.2⟩
  case round =>
    clear H1
    obtain ⟨j, hj, hown, hb⟩ := hrel
    have hsz := hb.size
    rcases hown.2 with ⟨rfl, hn0⟩ | ⟨g, cap, cur, rfl, _⟩
    · omega
    · by_cases hlt : zs.length + j < n
      · have HO := hide (And.intro hown hb)
        clear hown hb
        go_wp2_with (at_builtin; refine append_fresh _ rfl (.tmp 13) (.tmp 14) 22 rfl w.heap.size 5 i0 (.int .u8 0) 1 1 Tryz.underlying22 hi hz0 hz1' hz2 rfl (by decide) _ _ _ rfl (HO.out.1.alloc _) ⟨wr.heap.size, 0, none⟩ 1 1 [.int .u8 0] rfl rfl (cell_one_new _ _ _) (one_u8 _) (by omega) (by unfold maxLen; omega) (by omega) (by simp; omega) ?_; intro v4 w4 o4 g4 f4)
        have HW := hide (show w4.ownsRow w.heap.size 5 1 v4 (zs.length + (j + 1)) ((zs ++ List.replicate (j + 1) 0).map (Value.int .u8)) ∧ Below w.heap.size w w4 from by
          refine ⟨?_, (HO.out.2.alloc hsz _).grown g4 (by simp; omega) (fun r h => (HO.out.1.lt r h).1)⟩
          rw [List.replicate_succ', ← List.append_assoc, List.map_append]
          exact o4)
        have hlen : ∃ a c, v4 = .slice a (zs.length + (j + 1)) c := by
          rcases HW.out.1.2 with ⟨rfl, hn0⟩ | ⟨g, cap, cur, rfl, _⟩
          · omega
          · exact ⟨_, _, rfl⟩
        obtain ⟨a4, c4, rfl⟩ := hlen
        clear o4 g4 f4
        go_roundw
        case rel => exact ⟨j + 1, by omega, HW.out.1, HW.out.2⟩
        case measure => show n - (zs.length + (j + 1)) < n - (zs.length + j); omega
      · have HO := hide (And.intro hown hb)
        clear hown hb
        go_wp2
        go_ret
        have h3 := HO.out
        have e : j = n - zs.length := by omega
        rw [show zs.length + j = n by omega, e] at h3
        exact ⟨_, rfl, by rw [show zs.length + j = n by omega]; exact h3.1, h3.2⟩
end Go.Proofs.YtkbbnflblkkepaaGreatDoor

namespace Go.Proofs.YtkbbnflblkkepaaGreatDoor
set_option linter.unusedVariables false
set_option linter.unusedSimpArgs false
open Go.RowKit

/-- An image of so many bytes is right in size. -/
def szOk (n : Nat) : Bool := decide (n % 512 = 0) && (decide (64 ≤ n / 512) && decide (n / 512 ≤ 2048))
theorem rightInSize_any (v : Value) (zs : List Int) (w : World) (h : Rd .u8 w v zs) (hz : zs.length ≤ 140737488355328) :
    Calls Tryz.prog 24 #[v] w fun e w' => e = .returned (.bool (szOk zs.length)) ∧ w = w' := by
  obtain ⟨a, cap, rfl⟩ : ∃ a cap, v = .slice a zs.length cap := by obtain ⟨a, cap, h1, _⟩ := h; exact ⟨a, cap, h1⟩
  clear h
  generalize zs.length = n at hz ⊢
  by_cases h1 : n % 512 = 0
  · have hq1 : ((n : Int) % 512 == 0) = true := by simp; omega
    by_cases h2 : 64 ≤ n / 512
    · have hq2 : decide ((64 : Int) ≤ (n : Int) / 512) = true := by simp; omega
      have HR := hide (show szOk n = decide ((n : Int) / 512 ≤ 2048) from by unfold szOk; rw [decide_eq_true h1, decide_eq_true h2, Bool.true_and, Bool.true_and, decide_eq_decide]; omega)
      clear h1 h2
      go_enter Tryz.func24, Tryz.ntmps24
      go_wp2
      go_ret
      exact ⟨ret_bool (by rw [HR.out]), rfl⟩
    · have hq2 : decide ((64 : Int) ≤ (n : Int) / 512) = false := by simp; omega
      have HR := hide (show szOk n = false from by unfold szOk; rw [decide_eq_false h2, Bool.false_and, Bool.and_false])
      clear h1 h2
      go_enter Tryz.func24, Tryz.ntmps24
      go_wp2
      go_ret
      exact ⟨ret_bool (by first | rfl | rw [HR.out]), rfl⟩
  · have hq1 : ((n : Int) % 512 == 0) = false := by simp; omega
    have HR := hide (show szOk n = false from by unfold szOk; rw [decide_eq_false h1, Bool.false_and])
    clear h1
    go_enter Tryz.func24, Tryz.ntmps24
    go_wp2
    go_ret
    exact ⟨ret_bool (by first | rfl | rw [HR.out]), rfl⟩
theorem blocks_any (v : Value) (zs : List Int) (w : World) (h : Rd .u8 w v zs) (hz : zs.length ≤ 140737488355328) :
    Calls Tryz.prog 18 #[v] w fun e w' => e = .returned (.int .i64 (if szOk zs.length = true then ((zs.length / 512 : Nat) : Int) else 0)) ∧ w = w' := by
  obtain ⟨a, cap, rfl⟩ : ∃ a cap, v = .slice a zs.length cap := by obtain ⟨a, cap, h1, _⟩ := h; exact ⟨a, cap, h1⟩
  clear h
  generalize zs.length = n at hz ⊢
  obtain ⟨m, hm⟩ : ∃ m, m = n / 512 := ⟨_, rfl⟩
  have e1 : (n : Int) / 512 = (m : Int) := by omega
  rw [← hm]
  by_cases h1 : n % 512 = 0
  · have hq1 : (((m : Int) * 512) != (n : Int)) = false := by simp; omega
    by_cases h2 : 64 ≤ n / 512
    · have hq2 : decide ((m : Int) < 64) = false := by simp; omega
      by_cases h3 : n / 512 ≤ 2048
      · have hq3 : decide ((2048 : Int) < (m : Int)) = false := by simp; omega
        have HR := hide (show (if szOk n = true then ((m : Nat) : Int) else 0) = (m : Int) from by unfold szOk; rw [decide_eq_true h1, decide_eq_true h2, decide_eq_true h3]; rfl)
        rw [HR.out]
        have hm9 : m ≤ 2048 := by omega
        clear h1 h2 h3 hm
        go_enter Tryz.func18, Tryz.ntmps18
        go_wp2
        go_ret
        exact ⟨rfl, rfl⟩
      · have hq3 : decide ((2048 : Int) < (m : Int)) = true := by simp; omega
        have HR := hide (show (if szOk n = true then ((m : Nat) : Int) else 0) = 0 from by unfold szOk; rw [decide_eq_false h3, Bool.and_false, Bool.and_false]; rfl)
        rw [HR.out]
        have hm9 : m ≤ 300000000000 := by omega
        clear h1 h2 h3 hm
        go_enter Tryz.func18, Tryz.ntmps18
        go_wp2
        go_ret
        exact ⟨rfl, rfl⟩
    · have hq2 : decide ((m : Int) < 64) = true := by simp; omega
      have HR := hide (show (if szOk n = true then ((m : Nat) : Int) else 0) = 0 from by unfold szOk; rw [decide_eq_false h2, Bool.false_and, Bool.and_false]; rfl)
      rw [HR.out]
      have hm9 : m ≤ 2048 := by omega
      clear h1 h2 hm
      go_enter Tryz.func18, Tryz.ntmps18
      go_wp2
      go_ret
      exact ⟨rfl, rfl⟩
  · have hq1 : (((m : Int) * 512) != (n : Int)) = true := by simp; omega
    have HR := hide (show (if szOk n = true then ((m : Nat) : Int) else 0) = 0 from by unfold szOk; rw [decide_eq_false h1, Bool.false_and]; rfl)
    rw [HR.out]
    have hm9 : m ≤ 300000000000 := by omega
    clear h1 hm
    go_enter Tryz.func18, Tryz.ntmps18
    go_wp2
    go_ret
    exact ⟨rfl, rfl⟩
end Go.Proofs.YtkbbnflblkkepaaGreatDoor

namespace Go.Proofs.YtkbbnflblkkepaaGreatDoor
set_option linter.unusedVariables false
set_option linter.unusedSimpArgs false
open Go.RowKit

theorem wpList_load_rowG {P : Program} {ops : Array Oper} {rest : List Oper} {o : Oper} {a : Act} {w : World} {Q : Exit → Act → World → Prop} (hw : Region.wanted o (yielded ops a.tmps) = true) (ty : TypeId) (x : Operand) (ho : o.op = .load ty x)
    (g : Nat) (hx : a.eval x = .pointer (some ⟨g, 0, none⟩)) (t : TypeId) (cs : Array Value) (fr : Nat × Nat) (d : TypeDesc) (hg : w.heap[g]? = some (.cells cs t fr))
    (hu : P.underlying ty = some d) (hd : (match d with | .struct _ | .array _ _ => true | _ => false) = true) (hi : (P.info? ty).map (·.size) = some cs.size)
    (h : wpList P ops Q rest (a.put o.dst (.agg cs)) w) : wpList P ops Q (o :: rest) a w :=
  Go.BigFrame.wpList_want hw fun _ hK => wp_load_row ty x ho g hx t cs fr d hg hu hd hi (hK _ _ h)
/-- The bytes of data block p; a hole has zeros. -/
def datB (zs : List Int) (p : Int) : List Int := if p = 0 then List.replicate 512 0 else blkP zs p

set_option maxRecDepth 100000 in
set_option maxHeartbeats 1000000 in
theorem data3_any (v : Value) (zs : List Int) (p : Int) (w : World) (h : Rd .u8 w v zs) (h1 : zs.length ≤ 1048576) (hp : goodP (zs.length / 512) p = true) :
    Calls Tryz.prog 35 #[v, .int .i64 p] w fun e w' => ∃ v', e = .returned v' ∧ Rd .u8 w' v' (datB zs p) ∧ Below w.heap.size w w' := by
  obtain ⟨i0, hi, hz0, hz1, hz2⟩ := info_parts infoU8
  by_cases h0 : p = 0
  · subst h0
    obtain ⟨a, cap, rfl⟩ := rd_shapeT h
    clear h
    go_enter Tryz.func35, Tryz.ntmps35
    go_wp2_with (refine wpList_make_full _ rfl _ _ 22 rfl w.heap.size 5 i0 (.int .u8 0) 1 Tryz.underlying22 hi hz0 hz1 .i64 .i64 512 512 512 rfl rfl rfl rfl (by rw [hz2]; omega) (by unfold maxLen; omega) (Nat.le_refl _) ?_; intro w3 o3 g3; rw [made_one _ _ rfl] at o3; have O3 := hide (And.intro o3 g3); clear o3 g3)
    go_ret
    refine ⟨_, rfl, ?_, (Below.refl _ _).grown O3.out.2 (Nat.le_refl _) (fun k e => by cases e)⟩
    rw [show datB zs 0 = List.replicate 512 0 from if_pos rfl]
    have e : w3.ownsRow w.heap.size 5 1 (.slice (some ⟨w.heap.size, 0, none⟩) 512 512) 512 ((List.replicate 512 (0 : Int)).map (Value.int .u8)) := by rw [List.map_replicate]; exact O3.out.1
    exact Rd.own e
  · obtain ⟨h2, h3⟩ := good_pos hp h0
    obtain ⟨q, rfl⟩ : ∃ q : Nat, p = (q : Int) := ⟨p.toNat, by omega⟩
    obtain ⟨b, off, cap, rfl, hb, hlc, hcm, hcell⟩ := h.partsC (by omega)
    obtain ⟨A, hA⟩ : ∃ A : Nat, A = q * 512 := ⟨_, rfl⟩
    have hA1 : (q : Int) * 512 = (A : Int) := by omega
    obtain ⟨B, hB⟩ : ∃ B : Nat, B = A + 512 := ⟨_, rfl⟩
    have hA2 : ((q : Int) + 1) * 512 = (B : Int) := by omega
    have hAB : B ≤ zs.length := by omega
    have HP := hide (show Rd .u8 w (.slice (some ⟨b, off + A, none⟩) 512 (cap - A)) (blkP zs (q : Int)) from by unfold blkP; rw [Int.toNat_natCast, ← hA]; exact Rd.cut2 A 512 h (by omega) (by omega))
    have hB3 : (A : Int) ≤ (B : Int) := by omega
    have hB4 : (B : Int) ≤ (cap : Int) := by omega
    have hB5 : B - A = 512 := by omega
    have hq : (q : Int) < 4096 := by omega
    clear h hcell hA hB
    go_enter Tryz.func35, Tryz.ntmps35
    go_wp2
    go_ret
    refine ⟨_, rfl, ?_, Below.refl _ _⟩
    rw [show datB zs (q : Int) = blkP zs (q : Int) from if_neg h0]
    exact HP.out
/-- What is wrong with the image or the root. -/
def faultT (zs : List Int) (s : Int) (ds : List Int) (p q : Int) : Int := if szOk zs.length = true ∧ rightR s ds p q = true then 0 else 7
set_option maxRecDepth 100000 in
set_option maxHeartbeats 1000000 in
theorem fault3_any (v : Value) (zs : List Int) (s : Int) (ds : List Int) (p q : Int) (w : World) (h : Rd .u8 w v zs) (h1 : zs.length ≤ 1048576) (hd : ds.length = 12) :
    Calls Tryz.prog 33 #[v, .agg (cellsI (rootI s ds p q))] w fun e w' => e = .returned (.int .i64 (faultT zs s ds p q)) ∧ Below w.heap.size w w' := by
  have HD := hide hd
  have HZ := hide (show (cellsI (rootI s ds p q)).size = 15 from by rw [cellsI_size]; exact rootI_len s ds p q HD.out)
  have hb0 : Below w.heap.size w (w.alloc (.cells (cellsI (rootI s ds p q)) 34)) := (Below.refl _ _).alloc (Nat.le_refl _) _
  have HB0 := hide hb0
  obtain ⟨a, cap, rfl⟩ := rd_shapeT h
  have HR := hide h
  clear hd hb0 h
  cases hsz : szOk zs.length with
  | false =>
    have HS := hide hsz
    clear hsz
    go_enter Tryz.func33, Tryz.ntmps33
    go_wp2_with fail
    refine (blocks_any _ zs _ (HR.out.below HB0.out) (by omega)).mono ?_
    rintro e w1 ⟨rfl, rfl⟩
    rw [HS.out]
    go_wp2
    go_ret
    exact ⟨by unfold faultT; rw [HS.out, if_neg (by simp)]; rfl, HB0.out⟩
  | true =>
    have HS := hide hsz
    have hn : ((zs.length / 512 : Nat) : Int) ≠ 0 := by unfold szOk at hsz; simp at hsz; omega
    obtain ⟨n, hn2⟩ : ∃ n : Nat, zs.length / 512 = n := ⟨_, rfl⟩
    rw [hn2] at hn
    have hn3 : ((n : Int) == 0) = false := by simp; omega
    have HN := hide hn2
    clear hsz hn2
    go_enter Tryz.func33, Tryz.ntmps33
    go_wp2_with fail
    refine (blocks_any _ zs _ (HR.out.below HB0.out) (by omega)).mono ?_
    rintro e w1 ⟨rfl, rfl⟩
    rw [HS.out, HN.out, if_pos rfl]
    go_wp2_with (refine wpList_load_rowG (by rfl) 34 _ rfl w.heap.size rfl 34 (cellsI (rootI s ds p q)) (0, 0) _ (Blk.new w _ _) Tryz.underlying34 rfl (by rw [HZ.out]; exact info15) ?_)
    refine (l02Root_any s ds p q _ HD.out).mono ?_
    rintro e w1 ⟨rfl, b1⟩
    have HB1 := hide (HB0.out.trans (b1.mono HB0.out.size))
    clear b1
    cases hr : rightR s ds p q with
    | false =>
      have HR2 := hide hr
      clear hr
      go_wp2
      go_ret
      exact ⟨by unfold faultT; rw [HR2.out, if_neg (by simp)]; rfl, HB1.out⟩
    | true =>
      have HR2 := hide hr
      clear hr
      go_wp2
      go_ret
      exact ⟨by unfold faultT; rw [HR2.out, HS.out, if_pos ⟨rfl, rfl⟩]; rfl, HB1.out⟩
end Go.Proofs.YtkbbnflblkkepaaGreatDoor

namespace Go.Proofs.YtkbbnflblkkepaaGreatDoor
set_option linter.unusedVariables false
set_option linter.unusedSimpArgs false
open Go.RowKit

theorem infoP3 : (Tryz.prog.info? 133).map (·.size) = some 3 := by kernel_rfl
def placeV (l o i c : Int) : Value := .tuple #[.agg #[.int .i64 l, .int .i64 o, .int .i64 i], .int .i64 c]
set_option maxRecDepth 100000 in
set_option maxHeartbeats 400000 in
theorem specP_0 (x : Nat) (w : World) (h : x < 12) :
    Calls Tryz.prog 62 #[.int .i64 x] w fun e w' => e = .returned (placeV 0 0 x 0) ∧ Below w.heap.size w w' := by
  have HB := hide (show ∀ C, Below w.heap.size w (w.alloc C) from fun C => (Below.refl _ _).alloc (Nat.le_refl _) _)
  go_enter Tryz.func62, Tryz.ntmps62
  go_wp2
  refine bodyPost_ret (v := placeV 0 0 x 0) ?_ rfl ⟨rfl, HB.out _⟩
  exact results_row_tmp rfl _ _ w.heap.size 133 _ (0, 0) _ _ rfl rfl (heap_alloc_new w _) Tryz.underlying133 rfl infoP3
set_option maxRecDepth 100000 in
set_option maxHeartbeats 400000 in
theorem specP_1 (x : Nat) (w : World) (h : x < 128) :
    Calls Tryz.prog 62 #[.int .i64 ((x + 12 : Nat) : Int)] w fun e w' => e = .returned (placeV 1 0 x 0) ∧ Below w.heap.size w w' := by
  have HB := hide (show ∀ C, Below w.heap.size w (w.alloc C) from fun C => (Below.refl _ _).alloc (Nat.le_refl _) _)
  go_enter Tryz.func62, Tryz.ntmps62
  go_wp2
  refine bodyPost_ret (v := placeV 1 0 x 0) ?_ rfl ⟨rfl, HB.out _⟩
  exact results_row_tmp rfl _ _ w.heap.size 133 _ (0, 0) _ _ rfl rfl (heap_alloc_new w _) Tryz.underlying133 rfl infoP3
set_option maxRecDepth 100000 in
set_option maxHeartbeats 400000 in
theorem specP_2 (x : Nat) (w : World) (h : x < 372) :
    Calls Tryz.prog 62 #[.int .i64 ((x + 140 : Nat) : Int)] w fun e w' => e = .returned (placeV 2 ((x / 128 : Nat) : Int) ((x % 128 : Nat) : Int) 0) ∧ Below w.heap.size w w' := by
  have HB := hide (show ∀ C, Below w.heap.size w (w.alloc C) from fun C => (Below.refl _ _).alloc (Nat.le_refl _) _)
  go_enter Tryz.func62, Tryz.ntmps62
  go_wp2
  have e1 : (x : Int) / 128 = ((x / 128 : Nat) : Int) := by omega
  have e2 : (x : Int) % 128 = ((x % 128 : Nat) : Int) := by omega
  rw [e1, e2]
  refine bodyPost_ret (v := placeV 2 ((x / 128 : Nat) : Int) ((x % 128 : Nat) : Int) 0) ?_ rfl ⟨rfl, HB.out _⟩
  exact results_row_tmp rfl _ _ w.heap.size 133 _ (0, 0) _ _ rfl rfl (heap_alloc_new w _) Tryz.underlying133 rfl infoP3

end Go.Proofs.YtkbbnflblkkepaaGreatDoor
