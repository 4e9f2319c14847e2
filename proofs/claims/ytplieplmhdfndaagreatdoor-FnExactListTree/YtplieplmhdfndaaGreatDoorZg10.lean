/- EncodeWords, the model's and the program's: both give encW. append to an owned row: where it moves, it moves to new memory. The model's EncodeRoot. The model joins byte strings and fills them up: l02Join, l02Fill. The model's directories: l03ZeroBytes, l06Slots. The root of a table of inodes: l02TableSize of the model, tableRootFault of the program. The program's look at a snapshot: snapFault. EncodeWords of the program: it gives encW, in memory of its own. The program lays a root down: layRoot, EncodeRoot. The program's EncodeRoot: it gives encR, in memory of its own. The program lays an inode down: layZeros, layInode. The sum by eight steps a byte and by a table of a byte's part are one: plain arithmetic. The walks of the two sums: the model's by its table, the program's by eight steps a byte. A block with its sum: laySum of the program, l02Sealed of the model. The program lays a snapshot down: layLetters, laySnap. The program lays a snapshot down: laySnap. EncodeSnap of the program. EncodeSnap of the model: refusals. The mark that a conversion puts behind a row: what it keeps. The model's bytes of an inode: l02InodeBytes. -/
import Derived.Test.YtplieplmhdfndaaGreatDoorZg05
import Derived.Test.YtplieplmhdfndaaGreatDoorZg03
import Derived.Test.YtplieplmhdfndaaGreatDoorZg01
import Derived.OwnWalk
import Derived.ArgAppend
import Derived.Test.YtplieplmhdfndaaGreatDoorZg07
import Derived.Test.YtplieplmhdfndaaGreatDoorZg08
import Derived.Test.YtplieplmhdfndaaGreatDoorZg06
import Derived.Deep.RegionHeld
import Derived.Outline
import Derived.Deep.RegionHeld3
import Derived.WalkKit
import Derived.Test.YtplieplmhdfndaaGreatDoorRows
import Derived.WalkLawsBesides
import Derived.Room.AppendFits
namespace Go.Proofs.YtplieplmhdfndaaGreatDoor
open Go.RowKit

def bytesW (ws : List Int) : List Int := ws.flatMap fun v => le 4 v.toNat
end Go.Proofs.YtplieplmhdfndaaGreatDoor

namespace Go.Proofs.YtplieplmhdfndaaGreatDoor
open Go.RowKit

theorem append_fresh {P : Program} (w : World) {ops : Array Oper} {rest : List Oper} {o : Oper} {a : Act} {Q : Exit → Act → World → Prop}
    (hg : o.guard = none) (s x : Operand) (t : TypeId) (hop : o.op = Op.call { callee := Callee.builtin Builtin.append, args := #[s, x], argTypes := #[t, t] })
    (base : Nat) (e : TypeId) (i : TypeInfo) (z : Value) (size bytes : Nat) (h1 : P.underlying t = some (.slice e)) (h2 : P.info? e = some i) (h3 : i.zero = some z) (h4 : i.size = size) (h5 : i.bytes = bytes) (h6 : z.cells.size = size) (h7 : 0 < size)
    (v : Value) (n : Nat) (xs : List Value) (hs : a.eval s = v) (hown : w.ownsRow base e size v n xs)
    (ad : Addr) (m c : Nat) (news : List Value) (hx : a.eval x = .slice (some ad) m c) (hn : news.length = m * size) (hc : ∀ j u, news[j]? = some u → w.cell? (ad.add j) = some u) (h1c : ∀ u ∈ news, u.oneCell' = true)
    (hm : 0 < m) (b1 : n + m ≤ maxLen) (b2 : (n + m) * bytes ≤ 140737488355328) (b3 : base ≤ w.heap.size)
    (hK : ∀ v' w', w'.ownsRow base e size v' (n + m) (xs ++ news) → w.grownBy w' v.ownBlock → (∀ k, v'.ownBlock = some k → v.ownBlock = some k ∨ w.heap.size ≤ k) → wpList P ops Q rest (a.put o.dst v') w') :
    wpList P ops Q (o :: rest) a w := by
  have weak : ∀ w', w.grownBy w' none → ∀ r, w.grownBy w' r := fun w' h r => ⟨h.os, h.tape, h.output, h.size, fun k hk _ => h.block k hk (by simp)⟩
  rcases hown.2 with ⟨rfl, rfl⟩ | ⟨g, cap, cur, rfl, hb, hgr, hnc, hcm, hcs, htake⟩
  · have hx0 : xs = [] := List.eq_nil_of_length_eq_zero (by simpa using hown.1)
    subst hx0
    refine wpList_append_grows w hg s x t hop e i z size bytes h1 h2 h3 h4 h5 h6 h7 none 0 0 [] hs (fun _ => ⟨rfl, rfl⟩) (by simp) (fun b h => by cases h) ad m c news hx hn hc h1c (by omega) b1 b2 ?_
    intro v' w' r1 r2
    exact hK v' w' (own_mono r1 b3) (weak w' r2 _) (fun k hk => .inr (r1.lt k hk).1)
  · by_cases hroom : n + m ≤ cap
    · refine wpList_append_fits w hg s x t hop base e i size h1 h2 h4 g n cap xs hs hown ad m c news hx hn hc h1c hroom ?_
      intro w' r1 r2
      exact hK _ w' r1 r2 (fun k hk => .inl hk)
    · refine wpList_append_grows w hg s x t hop e i z size bytes h1 h2 h3 h4 h5 h6 h7 (some ⟨g, 0, none⟩) n cap xs hs (fun h => by cases h) hown.1 (fun b h j u hj => by cases h; exact hown.cells (g := g) rfl j u hj) ad m c news hx hn hc h1c (by omega) b1 b2 ?_
      intro v' w' r1 r2
      exact hK v' w' (own_mono r1 b3) (weak w' r2 _) (fun k hk => .inr (r1.lt k hk).1)
end Go.Proofs.YtplieplmhdfndaaGreatDoor

namespace Go.Proofs.YtplieplmhdfndaaGreatDoor
set_option linter.unusedVariables false
set_option linter.unusedSimpArgs false
open Go.RowKit

def bytesR (s : Int) (ds : List Int) (p q : Int) : List Int := le 8 s.toNat ++ bytesW (ds ++ [p, q])
end Go.Proofs.YtplieplmhdfndaaGreatDoor

namespace Go.Proofs.YtplieplmhdfndaaGreatDoor
set_option linter.unusedVariables false
set_option linter.unusedSimpArgs false
open Go.RowKit

/-- Slices that read as byte strings, one by one. -/
def AllRd (w : World) : List Value → List (List Int) → Prop
  | [], [] => True
  | v :: vs, b :: bs => Rd .u8 w v b ∧ AllRd w vs bs
  | _, _ => False
theorem AllRd.below {w w' : World} (hb : Below w.heap.size w w') : ∀ {vs : List Value} {bs : List (List Int)}, AllRd w vs bs → AllRd w' vs bs
  | [], [], _ => trivial
  | _ :: _, _ :: _, h => ⟨h.1.below hb, AllRd.below hb h.2⟩
  | [], _ :: _, h => h.elim
  | _ :: _, [], h => h.elim
theorem AllRd.snoc {w : World} {v : Value} {b : List Int} (hv : Rd .u8 w v b) : ∀ {vs : List Value} {bs : List (List Int)}, AllRd w vs bs → AllRd w (vs ++ [v]) (bs ++ [b])
  | [], [], _ => ⟨hv, trivial⟩
  | _ :: _, _ :: _, h => ⟨h.1, AllRd.snoc hv h.2⟩
  | [], _ :: _, h => h.elim
  | _ :: _, [], h => h.elim
theorem AllRd.next {w w' : World} {base : Nat} {e : TypeId} {n : Nat} {v : Value} {b : List Int} {vs : List Value} {bs : List (List Int)} (h : AllRd w vs bs) (ho : w'.ownsRow base e 1 v n (b.map (Value.int .u8))) (hb : Below w.heap.size w w') : AllRd w' (vs ++ [v]) (bs ++ [b]) :=
  (h.below hb).snoc (Rd.own ho)
theorem AllRd.len {w : World} : ∀ {vs : List Value} {bs : List (List Int)}, AllRd w vs bs → vs.length = bs.length
  | [], [], _ => rfl
  | _ :: _, _ :: _, h => by simp [AllRd.len h.2]
  | [], _ :: _, h => h.elim
  | _ :: _, [], h => h.elim
theorem AllRd.at {w : World} : ∀ {vs : List Value} {bs : List (List Int)} (k : Nat), AllRd w vs bs → k < bs.length → ∃ v, vs[k]? = some v ∧ Rd .u8 w v (bs.getD k [])
  | v :: vs, b :: bs, 0, h, _ => ⟨v, rfl, h.1⟩
  | v :: vs, b :: bs, k + 1, h, hk => by
    obtain ⟨u, h1, h2⟩ := AllRd.at k h.2 (by simpa using hk)
    exact ⟨u, by simpa using h1, by simpa using h2⟩
  | [], [], k, _, hk => by simp at hk
  | [], _ :: _, _, h, _ => h.elim
  | _ :: _, [], _, h, _ => h.elim
theorem flatten_take {α : Type} (bs : List (List α)) (k : Nat) (h : k < bs.length) : (bs.take (k + 1)).flatten = (bs.take k).flatten ++ bs.getD k [] := by
  rw [List.take_succ_eq_append_getElem h, List.flatten_append]
  simp [List.getD, h]
theorem take_flat_len {α : Type} (bs : List (List α)) (k : Nat) : (bs.take k).flatten.length ≤ bs.flatten.length := by
  conv => rhs; rw [← List.take_append_drop k bs, List.flatten_append, List.length_append]
  omega

set_option maxRecDepth 100000 in
set_option maxHeartbeats 1000000 in
theorem join_any (g n c : Nat) (vs : List Value) (bs : List (List Int)) (w : World) (hcell : ∀ j v, vs[j]? = some v → w.cell? ⟨g, j, none⟩ = some v) (hall : AllRd w vs bs) (hn : bs.length = n) (hn2 : n ≤ 1000) (hpos : ∀ b ∈ bs, 0 < b.length) (htot : bs.flatten.length ≤ 100000) (hg : g < w.heap.size) :
    Calls Tryz.prog 84 #[.slice (some ⟨g, 0, none⟩) n c] w fun e w' => ∃ v', e = .returned v' ∧ w'.ownsRow w.heap.size 5 1 v' bs.flatten.length (bs.flatten.map (Value.int .u8)) ∧ Below w.heap.size w w' := by
  obtain ⟨i0, hi, hz0, hz1', hz2⟩ := info_parts infoU8
  have HC := hide (And.intro hcell (And.intro hall (And.intro hpos (And.intro hn htot))))
  have H0 := hide (own_empty w 5)
  have hb0 := hide (show Below w.heap.size w (w.alloc (.cells #[] 5)) from (Below.refl _ _).alloc (Nat.le_refl _) _)
  clear hcell hall hpos hn htot
  go_enter Tryz.func84, Tryz.ntmps84
  go_wp2
  go_loopw [3, 9] (fun o i wr => ∃ k : Nat, k ≤ n ∧ i = .int .i64 k ∧ wr.ownsRow w.heap.size 5 1 o (bs.take k).flatten.length ((bs.take k).flatten.map (Value.int .u8)) ∧ Below w.heap.size w wr) (fun _ i _ => n - (intOf i).toNat)
  case atStart => exact ⟨0, by omega, rfl, by simpa using H0.out, hb0.out⟩
  case round =>
    clear H0 hb0
    obtain ⟨k, hk, rfl, hown, hb⟩ := hrel
    have hsz := hb.size
    by_cases hlt : k < n
    · obtain ⟨v, hv, hr⟩ := HC.out.2.1.at k (by rw [HC.out.2.2.2.1]; exact hlt)
      have hbk : 0 < (bs.getD k []).length := HC.out.2.2.1 _ (by
        have := HC.out.2.2.2.1
        have hk2 : k < bs.length := by omega
        simp [List.getD, hk2])
      have HT := hide (flatten_take bs k (by rw [HC.out.2.2.2.1]; exact hlt))
      have hle : (bs.take k).flatten.length + (bs.getD k []).length ≤ 100000 := by
        have h1 := take_flat_len bs (k + 1)
        rw [HT.out, List.length_append] at h1
        have := HC.out.2.2.2.2
        omega
      have c1 : wr.cell? ⟨g, k, none⟩ = some v := (hb.cell (p := ⟨g, k, none⟩) hg).trans (HC.out.1 k v hv)
      generalize bs.getD k [] = z at hr HT hbk hle
      obtain ⟨bd, off, cp, rfl, hbw, _, _, hcell3⟩ := (hr.below hb).partsC hbk
      have HX := hide (show ∀ (j : Nat) (u : Value), (z.map (Value.int .u8))[j]? = some u → wr.cell? ((⟨bd, off, none⟩ : Addr).add j) = some u from fun j u hj => by
        have hjl : j < z.length := by
          rcases Nat.lt_or_ge j z.length with h | h
          · exact h
          · rw [List.getElem?_eq_none (by simpa using h)] at hj; cases hj
        have ea : (⟨bd, off, none⟩ : Addr).add j = ⟨bd, off + j, none⟩ := by unfold Addr.add; split <;> simp_all
        rw [ea, hcell3 j hjl]
        rw [List.getElem?_map, List.getElem?_eq_getElem hjl] at hj
        simp at hj
        rw [← hj]
        simp [List.getD, hjl])
      have HO := hide (And.intro hown hb)
      clear hcell3 hr hown hb hv
      go_wp2_with (at_builtin; refine append_fresh _ rfl (.tmp 13) (.tmp 14) 45 rfl w.heap.size 5 i0 (.int .u8 0) 1 1 Tryz.underlying45 hi hz0 hz1' hz2 rfl (by decide) _ _ _ rfl HO.out.1 ⟨bd, off, none⟩ z.length cp (z.map (Value.int .u8)) rfl (by simp) HX.out (ints_oneCell _ _) hbk (by unfold maxLen; omega) (by omega) (by omega) ?_; intro v4 w4 o4 g4 f4)
      have HW := hide (show w4.ownsRow w.heap.size 5 1 v4 (bs.take (k + 1)).flatten.length ((bs.take (k + 1)).flatten.map (Value.int .u8)) ∧ Below w.heap.size w w4 from by
        refine ⟨?_, HO.out.2.grown g4 (by omega) (fun r h => (HO.out.1.lt r h).1)⟩
        rw [HT.out, List.map_append, List.length_append]
        exact o4)
      clear o4 g4 f4
      go_roundw
      case rel => exact ⟨k + 1, by omega, by go_num, HW.out.1, HW.out.2⟩
      case measure => simp [intOf]; omega
    · have HO := hide (And.intro hown hb)
      have e : k = n := by omega
      clear hown hb
      go_wp2
      go_ret
      have h2 := HO.out
      rw [List.take_of_length_le (by rw [HC.out.2.2.2.1]; omega)] at h2
      exact ⟨_, rfl, h2.1, h2.2⟩

set_option maxRecDepth 100000 in
set_option maxHeartbeats 1000000 in
theorem fill_any (v : Value) (zs : List Int) (n : Nat) (w : World) (h : Rd .u8 w v zs) (h0 : 0 < zs.length) (h1 : zs.length ≤ n) (h2 : n ≤ 100000) :
    Calls Tryz.prog 131 #[v, .int .i64 n] w fun e w' => ∃ v', e = .returned v' ∧ w'.ownsRow w.heap.size 5 1 v' n ((zs ++ List.replicate (n - zs.length) 0).map (Value.int .u8)) ∧ Below w.heap.size w w' := by
  obtain ⟨i0, hi, hz0, hz1', hz2⟩ := info_parts infoU8
  obtain ⟨bd, off, cp, rfl, hbw, _, _, hcell3⟩ := h.partsC h0
  have HB0 := hide (show Below w.heap.size w (w.alloc (.cells #[] 5)) from (Below.refl _ _).alloc (Nat.le_refl _) _)
  have HX := hide (show ∀ (j : Nat) (u : Value), (zs.map (Value.int .u8))[j]? = some u → (w.alloc (.cells #[] 5)).cell? ((⟨bd, off, none⟩ : Addr).add j) = some u from fun j u hj => by
    have hjl : j < zs.length := by
      rcases Nat.lt_or_ge j zs.length with h | h
      · exact h
      · rw [List.getElem?_eq_none (by simpa using h)] at hj; cases hj
    have ea : (⟨bd, off, none⟩ : Addr).add j = ⟨bd, off + j, none⟩ := by unfold Addr.add; split <;> simp_all
    rw [ea, HB0.out.cell (p := ⟨bd, off + j, none⟩) hbw, hcell3 j hjl]
    rw [List.getElem?_map, List.getElem?_eq_getElem hjl] at hj
    simp at hj
    rw [← hj]
    simp [List.getD, hjl])
  have H0 := hide (own_empty w 5)
  clear h hcell3
  go_enter Tryz.func131, Tryz.ntmps131
  go_wp2_with (at_builtin; refine append_fresh _ rfl (.tmp 6) (.tmp 7) 45 rfl w.heap.size 5 i0 (.int .u8 0) 1 1 Tryz.underlying45 hi hz0 hz1' hz2 rfl (by decide) _ _ _ rfl H0.out ⟨bd, off, none⟩ zs.length cp (zs.map (Value.int .u8)) rfl (by simp) HX.out (ints_oneCell _ _) h0 (by unfold maxLen; omega) (by omega) (by simp) ?_; intro v1 w1 o1 g1 f1)
  have H1 := hide (show w1.ownsRow w.heap.size 5 1 v1 zs.length (zs.map (Value.int .u8)) ∧ Below w.heap.size w w1 from ⟨by simpa using o1, HB0.out.grown g1 (by simp) (fun r h => (H0.out.lt r h).1)⟩)
  clear o1 g1 f1
  go_loopw [5] (fun o wr => ∃ j : Nat, zs.length + j ≤ n ∧ wr.ownsRow w.heap.size 5 1 o (zs.length + j) ((zs ++ List.replicate j 0).map (Value.int .u8)) ∧ Below w.heap.size w wr) (fun o _ => n - (match o with | .slice _ l _ => l | _ => 0))
  case atStart => exact ⟨0, by omega, by simpa using H1.out.1, H1.out.2⟩
  case round =>
    clear H1
    obtain ⟨j, hj, hown, hb⟩ := hrel
    have hsz := hb.size
    rcases hown.2 with ⟨rfl, hn0⟩ | ⟨g, cap, cur, rfl, _⟩
    · omega
    · by_cases hlt : zs.length + j < n
      · have HO := hide (And.intro hown hb)
        clear hown hb
        go_wp2_with (at_builtin; refine append_fresh _ rfl (.tmp 13) (.tmp 14) 45 rfl w.heap.size 5 i0 (.int .u8 0) 1 1 Tryz.underlying45 hi hz0 hz1' hz2 rfl (by decide) _ _ _ rfl (HO.out.1.alloc _) ⟨wr.heap.size, 0, none⟩ 1 1 [.int .u8 0] rfl rfl (cell_one_new _ _ _) (one_u8 _) (by omega) (by unfold maxLen; omega) (by omega) (by simp; omega) ?_; intro v4 w4 o4 g4 f4)
        have HW := hide (show w4.ownsRow w.heap.size 5 1 v4 (zs.length + (j + 1)) ((zs ++ List.replicate (j + 1) 0).map (Value.int .u8)) ∧ Below w.heap.size w w4 from by
          refine ⟨?_, (HO.out.2.alloc hsz _).grown g4 (by simp; omega) (fun r h => (HO.out.1.lt r h).1)⟩
          rw [List.replicate_succ', ← List.append_assoc, List.map_append]
          exact o4)
        have hlen : ∃ a c, v4 = .slice a (zs.length + (j + 1)) c := by
          rcases HW.out.1.2 with ⟨rfl, hn0⟩ | ⟨g, cap, cur, rfl, _⟩
          · omega
          · exact ⟨_, _, rfl⟩
        obtain ⟨a4, c4, rfl⟩ := hlen
        clear o4 g4 f4
        go_roundw
        case rel => exact ⟨j + 1, by omega, HW.out.1, HW.out.2⟩
        case measure => show n - (zs.length + (j + 1)) < n - (zs.length + j); omega
      · have HO := hide (And.intro hown hb)
        clear hown hb
        go_wp2
        go_ret
        have h3 := HO.out
        have e : j = n - zs.length := by omega
        rw [show zs.length + j = n by omega, e] at h3
        exact ⟨_, rfl, by rw [show zs.length + j = n by omega]; exact h3.1, h3.2⟩
end Go.Proofs.YtplieplmhdfndaaGreatDoor

namespace Go.Proofs.YtplieplmhdfndaaGreatDoor
set_option linter.unusedVariables false
set_option linter.unusedSimpArgs false
open Go.RowKit

def allZ (ts : List Int) : Bool := ts.all fun z => decide (z = 0)
theorem allZ_snoc (ts : List Int) (k : Nat) (hk : k < ts.length) : allZ (ts.take (k + 1)) = (allZ (ts.take k) && decide (ts.getD k 0 = 0)) := by
  unfold allZ
  rw [List.take_succ_eq_append_getElem hk, List.all_append]
  simp [List.getD, hk]
theorem allZ_no (ts : List Int) (k : Nat) (hk : k < ts.length) (h : ts.getD k 0 ≠ 0) : allZ ts = false := by
  cases hz : allZ ts with
  | false => rfl
  | true =>
    unfold allZ at hz
    rw [List.all_eq_true] at hz
    exact absurd (of_decide_eq_true (hz (ts.getD k 0) (by simp [List.getD, hk]))) h
set_option maxRecDepth 100000 in
theorem zeroBytes_any (v : Value) (ts : List Int) (w : World) (h : Rd .u8 w v ts) :
    Calls Tryz.prog 142 #[v] w fun e w' => e = .returned (.bool (allZ ts)) ∧ w' = w := by
  have hm := h.len
  unfold maxLen at hm
  rcases h.parts with ⟨a, cap, rfl, hlow⟩ | ⟨b, off, cap, rfl, hbw, hcell⟩
  all_goals
    clear h
    go_enter Tryz.func142, Tryz.ntmps142
    go_wp2
    go_loop [7] (fun i => ∃ k : Nat, k ≤ ts.length ∧ i = .int .i64 k ∧ allZ (ts.take k) = true) (fun i => ts.length - (intOf i).toNat)
    case atStart => exact ⟨0, Nat.zero_le _, rfl, rfl⟩
    case round =>
      obtain ⟨k, hk, rfl, he⟩ := hrel
      have HE := hide he
      clear he
      by_cases hlt : k < ts.length
      · first
        | omega
        | (have c1 := hcell k hlt
           have HN := hide (allZ_no ts k hlt)
           have HS := hide (allZ_snoc ts k hlt)
           clear hcell
           generalize ts.getD k 0 = z at c1 HN HS
           by_cases hz : z = 0
           · subst hz
             have HS2 := hide (show allZ (ts.take (k + 1)) = true from by rw [HS.out, HE.out]; rfl)
             go_wp2
             go_round
             case rel => exact ⟨k + 1, by omega, by go_num, HS2.out⟩
             case measure => simp [intOf]; omega
           · have hb : (z != 0) = true := by simpa using hz
             have HF := hide (HN.out hz)
             go_wp2
             go_ret
             exact ⟨ret_bool (by rw [HF.out]), rfl⟩)
      · have HF := hide (show allZ ts = true from by have h := HE.out; rw [List.take_of_length_le (by omega)] at h; exact h)
        go_wp2
        go_ret
        exact ⟨ret_bool (by rw [HF.out]), rfl⟩

/-- Slot k of a directory's bytes, as the model cuts it. -/
def slotV (b off cap k : Nat) : Value := .slice (some ⟨b, off + k * 32, none⟩) 32 (cap - k * 32)
theorem own_empty1 (w : World) (e : TypeId) : (w.alloc (.cells #[] e)).ownsRow w.heap.size e 1 (.slice (some ⟨w.heap.size, 0, none⟩) 0 0) 0 [] := own_empty w e
theorem infoSl : (Tryz.prog.info? 45).map (fun i => (i.zero, i.size, i.bytes)) = some (some (.slice none 0 0), 1, 24) := by kernel_rfl
theorem cell_new1 (w : World) (v : Value) (t : TypeId) : ∀ j u, ([v] : List Value)[j]? = some u → (w.alloc (.cells #[v] t)).cell? ((⟨w.heap.size, 0, none⟩ : Addr).add j) = some u := by
  intro j u hj
  rw [Addr.add_mid]
  match j, hj with
  | 0, hj => obtain rfl := Option.some.inj hj; exact cell_of_row _ _ 0 #[v] t (0, 0) (heap_alloc_new w _)
set_option maxRecDepth 100000 in
set_option maxHeartbeats 1000000 in
theorem slots_any (b off cap : Nat) (zs : List Int) (w : World) (hc : zs.length ≤ cap) (hcm : cap ≤ maxLen) (hl : zs.length ≤ 262144) (hz : zs.length % 32 = 0) (a : Option Addr) (ha : 0 < zs.length → a = some ⟨b, off, none⟩) :
    Calls Tryz.prog 141 #[.slice a zs.length cap] w fun e w' => ∃ v', e = .returned v' ∧ w'.ownsRow w.heap.size 45 1 v' (zs.length / 32) ((List.range (zs.length / 32)).map (slotV b off cap)) ∧ Below w.heap.size w w' := by
  obtain ⟨i0, hi, hz0, hz1, hz2⟩ := info_parts infoSl
  have H0 := hide (own_empty1 w 45)
  have hb0 := hide (show Below w.heap.size w (w.alloc (.cells #[] 45)) from (Below.refl _ _).alloc (Nat.le_refl _) _)
  unfold maxLen at hcm
  obtain ⟨N, hN⟩ : ∃ N, N = zs.length / 32 := ⟨_, rfl⟩
  have hNL : zs.length = N * 32 := by omega
  rw [← hN]
  clear hN
  go_enter Tryz.func141, Tryz.ntmps141
  go_wp2
  go_loopw [3, 4] (fun o i wr => ∃ k : Nat, k ≤ N ∧ i = .int .i64 ((k * 32 : Nat) : Int) ∧ wr.ownsRow w.heap.size 45 1 o k ((List.range k).map (slotV b off cap)) ∧ Below w.heap.size w wr) (fun _ i _ => zs.length + 32 - (intOf i).toNat)
  case atStart => exact ⟨0, by omega, rfl, by simpa using H0.out, hb0.out⟩
  case round =>
    clear H0 hb0
    obtain ⟨k, hk, rfl, hown, hb1⟩ := hrel
    have HO := hide hown
    have HB := hide hb1
    have hBs := hb1.size
    clear hown hb1
    by_cases hlt : k < N
    · obtain rfl := ha (by omega)
      have hl1 : ((k * 32 : Nat) : Int) + 32 ≤ (cap : Int) := by omega
      have HR := hide (show (List.range (k + 1)).map (slotV b off cap) = (List.range k).map (slotV b off cap) ++ [slotV b off cap k] from by rw [List.range_succ, List.map_append]; rfl)
      go_wp2_with (at_builtin; refine append_fresh _ rfl _ _ 209 rfl w.heap.size 45 i0 (.slice none 0 0) 1 24 Tryz.underlying209 hi hz0 hz1 hz2 rfl (by decide) _ _ _ rfl (HO.out.alloc _) ⟨wr.heap.size, 0, none⟩ 1 1 [slotV b off cap k] rfl rfl (cell_new1 wr _ _) (by simp [slotV, Value.oneCell']) (by omega) (by unfold maxLen; omega) (by omega) (by simp; omega) ?_; intro v7 w7 o7 g7 f7; have O7 := hide o7; have G7 := hide g7; clear o7 g7 f7)
      have HW := hide (show w7.ownsRow w.heap.size 45 1 v7 (k + 1) ((List.range (k + 1)).map (slotV b off cap)) ∧ Below w.heap.size w w7 from by
        refine ⟨by rw [HR.out]; exact O7.out, (HB.out.alloc hBs _).grown G7.out (by simp; omega) (fun r h => (HO.out.lt r h).1)⟩)
      exact ⟨⟨k + 1, by omega, by omega, HW.out.1, HW.out.2⟩, by simp [intOf]; omega⟩
    · have hkN : k = N := by omega
      subst hkN
      go_wp2
      go_ret
      exact ⟨_, rfl, HO.out, HB.out⟩
end Go.Proofs.YtplieplmhdfndaaGreatDoor

namespace Go.Proofs.YtplieplmhdfndaaGreatDoor
set_option linter.unusedVariables false
set_option linter.unusedSimpArgs false
open Go.RowKit

end Go.Proofs.YtplieplmhdfndaaGreatDoor

namespace Go.Proofs.YtplieplmhdfndaaGreatDoor
set_option linter.unusedVariables false
set_option linter.unusedSimpArgs false
open Go.RowKit

theorem Below.iter (w : World) (s : ByteArray) (pos : Nat) : Below w.heap.size w (w.iter s pos) := (Below.refl _ _).alloc (Nat.le_refl _) _

end Go.Proofs.YtplieplmhdfndaaGreatDoor

namespace Go.Proofs.YtplieplmhdfndaaGreatDoor
open Go.RowKit

end Go.Proofs.YtplieplmhdfndaaGreatDoor

namespace Go.Proofs.YtplieplmhdfndaaGreatDoor
set_option linter.unusedVariables false
set_option linter.unusedSimpArgs false
open Go.RowKit

end Go.Proofs.YtplieplmhdfndaaGreatDoor

namespace Go.Proofs.YtplieplmhdfndaaGreatDoor
set_option linter.unusedVariables false
set_option linter.unusedSimpArgs false
open Go.RowKit

end Go.Proofs.YtplieplmhdfndaaGreatDoor

namespace Go.Proofs.YtplieplmhdfndaaGreatDoor
set_option linter.unusedVariables false
set_option linter.unusedSimpArgs false
open Go.RowKit

/-- What the laying keeps: the row so far, the boxed inode, all that is older. -/
structure Li (w wr : World) (g k : Nat) (xs : List Int) (C : Array Value) (t : TypeId) : Prop where
  own : wr.ownsRow w.heap.size 5 1 (.slice (some ⟨g, 0, none⟩) k 128) k (xs.map (Value.int .u8))
  blk : Blk wr w.heap.size C t
  old : Below w.heap.size w wr
  lt : w.heap.size < g
theorem Li.step {w wr w' : World} {g k k' : Nat} {xs ys : List Int} {C : Array Value} {t : TypeId} (h : Li w wr g k xs C t) (ho : w'.ownsRow w.heap.size 5 1 (.slice (some ⟨g, 0, none⟩) k' 128) k' (xs.map (Value.int .u8) ++ ys.map (Value.int .u8))) (hg : wr.grownBy w' (some g)) : Li w w' g k' (xs ++ ys) C t :=
  ⟨by rw [List.map_append]; exact ho, (hg.block _ h.blk.lt (by have := h.lt; simp; omega)).trans h.blk, h.old.grown hg h.old.size (fun k e => by cases e; exact Nat.le_of_lt h.lt), h.lt⟩

end Go.Proofs.YtplieplmhdfndaaGreatDoor

namespace Go.Proofs.YtplieplmhdfndaaGreatDoor.Crc

/-- One of the eight steps of a byte. -/
def stp (n : Nat) : Nat := if n % 2 = 1 then (n / 2) ^^^ 3988292384 else n / 2
def rep : Nat → Nat → Nat
  | 0, n => n
  | k + 1, n => rep k (stp n)

def crcStep (r : Nat) (c : Int) : Nat := rep 8 (r ^^^ c.toNat)
def crcFold (zs : List Int) : Nat := zs.foldl crcStep 4294967295
def crc (zs : List Int) : Nat := crcFold zs ^^^ 4294967295

end Go.Proofs.YtplieplmhdfndaaGreatDoor.Crc

namespace Go.Proofs.YtplieplmhdfndaaGreatDoor
open Go.RowKit

end Go.Proofs.YtplieplmhdfndaaGreatDoor

namespace Go.Proofs.YtplieplmhdfndaaGreatDoor
set_option linter.unusedVariables false
set_option linter.unusedSimpArgs false
open Go.RowKit

/-- Bytes filled up to where the sum stands; with the sum behind them. -/
def pad (zs : List Int) : List Int := zs ++ List.replicate (508 - zs.length) 0
def sealed (zs : List Int) : List Int := pad zs ++ le 4 (Crc.crc (pad zs))
end Go.Proofs.YtplieplmhdfndaaGreatDoor

namespace Go.Proofs.YtplieplmhdfndaaGreatDoor
set_option linter.unusedVariables false
set_option linter.unusedSimpArgs false
open Go.RowKit

end Go.Proofs.YtplieplmhdfndaaGreatDoor

namespace Go.Proofs.YtplieplmhdfndaaGreatDoor
set_option linter.unusedVariables false
set_option linter.unusedSimpArgs false
open Go.RowKit

/-- The letters of a snapshot, where the program's own start lays them. -/
def snapLet : List Int := [115, 110, 97, 112, 115, 104, 111, 116]
def strInts (nm : ByteArray) : List Int := nm.data.toList.map fun b => (b.toNat : Int)
theorem strInts_len (nm : ByteArray) : (strInts nm).length = nm.size := by
  unfold strInts
  rw [List.length_map, Array.length_toList]
  rfl
theorem strInts_bd (nm : ByteArray) : ∀ z ∈ strInts nm, 0 ≤ z ∧ z < 256 := by
  intro z hz
  unfold strInts at hz
  obtain ⟨b, _, rfl⟩ := List.mem_map.1 hz
  have := b.toNat_lt
  omega
/-- The bytes of a snapshot ahead of its sum. -/
def bytesS (a : Nat) (nm : ByteArray) (b c : Nat) (s : Int) (ds : List Int) (p q : Int) : List Int := snapLet ++ le 1 a ++ le 1 nm.size ++ strInts nm ++ List.replicate (40 - (10 + nm.size)) 0 ++ le 8 b ++ le 8 c ++ bytesR s ds p q
/-- What the laying keeps, in a row of 512 bytes. -/
structure Ls (w wr : World) (g k : Nat) (xs : List Int) (C : Array Value) (t : TypeId) : Prop where
  own : wr.ownsRow w.heap.size 5 1 (.slice (some ⟨g, 0, none⟩) k 512) k (xs.map (Value.int .u8))
  blk : Blk wr w.heap.size C t
  old : Below w.heap.size w wr
  lt : w.heap.size < g
theorem Ls.step {w wr w' : World} {g k k' : Nat} {xs ys : List Int} {C : Array Value} {t : TypeId} (h : Ls w wr g k xs C t) (ho : w'.ownsRow w.heap.size 5 1 (.slice (some ⟨g, 0, none⟩) k' 512) k' (xs.map (Value.int .u8) ++ ys.map (Value.int .u8))) (hg : wr.grownBy w' (some g)) : Ls w w' g k' (xs ++ ys) C t :=
  ⟨by rw [List.map_append]; exact ho, (hg.block _ h.blk.lt (by have := h.lt; simp; omega)).trans h.blk, h.old.grown hg h.old.size (fun k e => by cases e; exact Nat.le_of_lt h.lt), h.lt⟩

end Go.Proofs.YtplieplmhdfndaaGreatDoor

namespace Go.Proofs.YtplieplmhdfndaaGreatDoor
set_option linter.unusedVariables false
set_option linter.unusedSimpArgs false
open Go.RowKit

theorem chk_size {nm : ByteArray} (h : (Chk.chkS nm == 0) = true) : nm.size ≤ 26 ∧ 0 < nm.size := by
  have h0 : Chk.chkS nm = 0 := by simpa using h
  unfold Chk.chkS at h0
  split at h0
  · omega
  · rename_i hn
    split at h0
    · omega
    · refine ⟨by omega, ?_⟩
      rcases Nat.eq_zero_or_pos nm.size with hz | hz
      · exact absurd (.inl (by rw [ByteArray.toList_eq]; exact List.eq_nil_of_length_eq_zero (by rw [Array.length_toList]; exact hz))) hn
      · exact hz
end Go.Proofs.YtplieplmhdfndaaGreatDoor

namespace Go.Proofs.YtplieplmhdfndaaGreatDoor
set_option linter.unusedVariables false
set_option linter.unusedSimpArgs false
open Go.RowKit

end Go.Proofs.YtplieplmhdfndaaGreatDoor

namespace Go.Proofs.YtplieplmhdfndaaGreatDoor
set_option linter.unusedVariables false
set_option linter.unusedSimpArgs false
open Go.RowKit

end Go.Proofs.YtplieplmhdfndaaGreatDoor

namespace Go.Proofs.YtplieplmhdfndaaGreatDoor
set_option linter.unusedVariables false
set_option linter.unusedSimpArgs false
open Go.RowKit

end Go.Proofs.YtplieplmhdfndaaGreatDoor
