/- The new state's tree has no paths: l07List of it is empty. The mark that a conversion puts behind a row: what it keeps. A path drawn over the new state: L08Path. A link's target drawn over the new state: l08Target. A block drawn: Block. -/
import Derived.Test.YtohmjfagbhnieaaGreatDoorZl09
import Derived.Test.YtohmjfagbhnieaaGreatDoorZl10
import Derived.Test.YtohmjfagbhnieaaGreatDoorZl08
import Derived.Laws.BytesArg
import Derived.Lib.ConvBytes
import Derived.Lib.SmallJoins
import Derived.Deep.RegionWith
namespace Go.Proofs.YtohmjfagbhnieaaGreatDoor
set_option linter.unusedVariables false
set_option linter.unusedSimpArgs false
open Go.RowKit

/-- A slice without elements that lies somewhere. -/
def Emp (v : Value) : Prop := ∃ g : Nat, v = .slice (some ⟨g, 0, none⟩) 0 0

set_option maxRecDepth 100000 in
theorem slots_nil (w : World) : Calls Tryz.prog 87 #[.slice none 0 0] w fun e w' => ∃ g : Nat, e = .returned (.slice (some ⟨g, 0, none⟩) 0 0) ∧ Below w.heap.size w w' := by
  have HB := hide (show ∀ o : Obj, Below w.heap.size w (w.alloc o) from fun o => (Below.refl _ _).alloc (Nat.le_refl _) o)
  go_enter Tryz.func87, Tryz.ntmps87
  go_wp2
  go_loopw [3, 4] (fun v i wr => i = .int .i64 0 ∧ Emp v ∧ Below w.heap.size w wr) (fun _ _ _ => 0)
  case atStart => exact ⟨rfl, ⟨_, rfl⟩, HB.out _⟩
  case round =>
    obtain ⟨rfl, ⟨g, rfl⟩, hb⟩ := hrel
    have HK := hide hb
    clear hb
    go_wp2
    go_ret
    exact ⟨_, rfl, HK.out⟩

set_option maxRecDepth 100000 in
theorem entries_nil (w : World) : Calls Tryz.prog 76 #[.slice none 0 0] w fun e w' => ∃ g : Nat, e = .returned (.tuple #[.slice (some ⟨g, 0, none⟩) 0 0, .bool true]) ∧ Below w.heap.size w w' := by
  have HB := hide (show ∀ o : Obj, Below w.heap.size w (w.alloc o) from fun o => (Below.refl _ _).alloc (Nat.le_refl _) o)
  have HS := hide slots_nil
  go_enter Tryz.func76, Tryz.ntmps76
  go_wp2_with fail
  refine (HS.out _).mono ?_
  rintro e w1 ⟨g, rfl, hb⟩
  have HK := hide ((HB.out _).trans (hb.mono (by simp)))
  clear hb
  go_wp2
  go_loopw [4, 24] (fun v i wr => i = .int .i64 0 ∧ Emp v ∧ Below w.heap.size w wr) (fun _ _ _ => 0)
  case atStart => exact ⟨rfl, ⟨_, rfl⟩, HK.out⟩
  case round =>
    clear HK
    obtain ⟨rfl, ⟨gv, rfl⟩, hb⟩ := hrel
    have HK := hide hb
    clear hb
    go_wp2
    go_ret2
    exact ⟨_, rfl, HK.out⟩

set_option maxRecDepth 100000 in
theorem sorted_nil (g : Nat) (w : World) : Calls Tryz.prog 77 #[.slice (some ⟨g, 0, none⟩) 0 0] w fun e w' => ∃ g : Nat, e = .returned (.slice (some ⟨g, 0, none⟩) 0 0) ∧ Below w.heap.size w w' := by
  have HB := hide (show ∀ o : Obj, Below w.heap.size w (w.alloc o) from fun o => (Below.refl _ _).alloc (Nat.le_refl _) o)
  go_enter Tryz.func77, Tryz.ntmps77
  go_wp2
  go_loopw [3, 11] (fun v i wr => i = .int .i64 0 ∧ Emp v ∧ Below w.heap.size w wr) (fun _ _ _ => 0)
  case atStart => exact ⟨rfl, ⟨_, rfl⟩, HB.out _⟩
  case round =>
    obtain ⟨rfl, ⟨gv, rfl⟩, hb⟩ := hrel
    have HK := hide hb
    clear hb
    go_wp2
    go_ret
    exact ⟨_, rfl, HK.out⟩

set_option maxRecDepth 100000 in
theorem dirList_nil (w : World) : Calls Tryz.prog 56 #[.slice none 0 0] w fun e w' => ∃ g : Nat, e = .returned (.tuple #[.slice (some ⟨g, 0, none⟩) 0 0, .int .i64 0]) ∧ Below w.heap.size w w' := by
  have HS := hide entries_nil
  have HT := hide sorted_nil
  go_enter Tryz.func56, Tryz.ntmps56
  go_wp2_with fail
  refine (HS.out _).mono ?_
  rintro e w1 ⟨g, rfl, hb⟩
  have HK := hide hb
  clear hb
  go_wp2_with fail
  refine (HT.out _ _).mono ?_
  rintro e w2 ⟨g2, rfl, hb⟩
  have HL := hide (HK.out.trans (hb.mono HK.out.size))
  clear hb
  go_wp2
  go_ret2
  exact ⟨_, rfl, HL.out⟩

set_option maxRecDepth 100000 in
theorem list_new (B : Nat) (w : World) (h : Blk w B nodes0 61) : Calls Tryz.prog 38 #[.agg #[.int .i64 1, .slice (some ⟨B, 0, none⟩) 2 2], .int .i64 1, .string ⟨#[]⟩] w fun e w' => ∃ g : Nat, e = .returned (.slice (some ⟨g, 0, none⟩) 0 0) ∧ Below w.heap.size w w' := by
  have HB := hide (show ∀ o p : Obj, Below w.heap.size w ((w.alloc o).alloc p) from fun o p => ((Below.refl _ _).alloc (Nat.le_refl _) o).alloc (by simp) p)
  have HS := hide dirList_nil
  have c19 := (h.cell 19).trans (show nodes0[19]? = some (.slice none 0 0) from rfl)
  have hlt := h.lt
  clear h
  go_enter Tryz.func38, Tryz.ntmps38
  go_wp2_with fail
  refine (HS.out _).mono ?_
  rintro e w1 ⟨g, rfl, hb⟩
  have HK := hide ((HB.out _ _).trans (hb.mono (by simp; omega)))
  clear hb
  go_wp2
  go_loopw [7, 25] (fun v i wr => i = .int .i64 0 ∧ Emp v ∧ Below w.heap.size w wr) (fun _ _ _ => 0)
  case atStart => exact ⟨rfl, ⟨_, rfl⟩, HK.out⟩
  case round =>
    clear HK
    obtain ⟨rfl, ⟨gv, rfl⟩, hb⟩ := hrel
    have HK := hide hb
    clear hb
    go_wp2
    go_ret
    exact ⟨_, rfl, HK.out⟩
end Go.Proofs.YtohmjfagbhnieaaGreatDoor

namespace Go.Proofs.YtohmjfagbhnieaaGreatDoor
set_option linter.unusedVariables false
set_option linter.unusedSimpArgs false
open Go.RowKit

/-- What a mark behind a row keeps: every cell; and the blocks, but for the marks of one. -/
theorem freeze_cell (w : World) (g k : Nat) (a : Addr) : (w.freeze ⟨g, k, none⟩ 1).cell? a = w.cell? a := by
  unfold World.freeze World.cell?
  rw [if_neg (by decide)]
  simp only [Array.getElem?_modify]
  by_cases h : g = a.block
  · rw [if_pos h]
    cases e : w.heap[a.block]? with
    | none => rfl
    | some o => cases o <;> rfl
  · rw [if_neg h]
theorem freeze_size (w : World) (g k : Nat) : (w.freeze ⟨g, k, none⟩ 1).heap.size = w.heap.size := by
  unfold World.freeze
  rw [if_neg (by decide)]
  simp
theorem freeze_row (w : World) (g k : Nat) {b : Nat} {C : Array Value} {t : TypeId} (h : ∃ fr, w.heap[b]? = some (.cells C t fr)) : ∃ fr, (w.freeze ⟨g, k, none⟩ 1).heap[b]? = some (.cells C t fr) := by
  obtain ⟨fr, h⟩ := h
  unfold World.freeze
  rw [if_neg (by decide)]
  simp only [Array.getElem?_modify]
  by_cases e : g = b
  · rw [if_pos e, h]; exact ⟨_, rfl⟩
  · rw [if_neg e]; exact ⟨fr, h⟩
theorem freeze_below {B : Nat} {w0 w : World} (h : Below B w0 w) (g k : Nat) (hg : B ≤ g) : Below B w0 (w.freeze ⟨g, k, none⟩ 1) := by
  refine h.trans ⟨?_, ?_, ?_, by rw [freeze_size]; exact Nat.le_refl _, fun j hj => ?_⟩
  · unfold World.freeze; rw [if_neg (by decide)]
  · unfold World.freeze; rw [if_neg (by decide)]
  · unfold World.freeze; rw [if_neg (by decide)]
  · unfold World.freeze
    rw [if_neg (by decide)]
    simp only [Array.getElem?_modify]
    rw [if_neg (show ¬ g = j by omega)]
theorem Rd.freeze {k : IntKind} {w : World} {v : Value} {zs : List Int} (h : Rd k w v zs) (g m : Nat) : Rd k (w.freeze ⟨g, m, none⟩ 1) v zs := by
  obtain ⟨a, cap, rfl, hm, hc, hcap⟩ := h
  refine ⟨a, cap, rfl, hm, fun hne => ?_, hcap⟩
  obtain ⟨b, off, rfl, hlt, hcell⟩ := hc hne
  exact ⟨b, off, rfl, by rw [freeze_size]; exact hlt, fun i hi => by rw [freeze_cell]; exact hcell i hi⟩
theorem AllRd.freeze {w : World} (g m : Nat) : ∀ {vs : List Value} {bs : List (List Int)}, AllRd w vs bs → AllRd (w.freeze ⟨g, m, none⟩ 1) vs bs
  | [], [], _ => trivial
  | _ :: _, _ :: _, h => ⟨h.1.freeze g m, AllRd.freeze g m h.2⟩
  | [], _ :: _, h => h.elim
  | _ :: _, [], h => h.elim
theorem run_mark {P : Program} (w : World) (t e : TypeId) (g n c : Nat) {C : Array Value} (hg : ∃ fr, w.heap[g]? = some (.cells C e fr)) (ht : P.underlying t = some (.slice e)) (he : P.underlying e = some (.int .u8)) :
    (convert t t (.slice (some ⟨g, 0, none⟩) n c)).run P w = .ok (.slice (some ⟨g, 0, none⟩) n c) (w.freeze ⟨g, C.size, none⟩ 1) := by
  obtain ⟨fr, hg⟩ := hg
  have hsh : w.shape? g = some (e, C.size) := by unfold World.shape?; rw [hg]
  simp [convert, run_underlying ht, run_underlying he, markStringish, hsh]
theorem wp_mark {P : Program} {o : Oper} {a : Act} {w : World} {K : Act → World → Prop} {Q : Exit → Act → World → Prop} (t e : TypeId) (x : Operand) (ho : o.op = .convert t t x) (g n c : Nat) {C : Array Value} (hx : a.eval x = .slice (some ⟨g, 0, none⟩) n c) (hg : ∃ fr, w.heap[g]? = some (.cells C e fr)) (ht : P.underlying t = some (.slice e)) (he : P.underlying e = some (.int .u8))
    (h : K (a.put o.dst (.slice (some ⟨g, 0, none⟩) n c)) (w.freeze ⟨g, C.size, none⟩ 1)) : o.wp P a w K Q := by
  unfold Oper.wp execOp
  simp only [ho, hx, Sem.run_bind, Sem.run_pure, Result.andThen_ok, run_mark w t e g n c hg ht he]
  exact h
theorem wpList_mark {P : Program} {ops : Array Oper} {rest : List Oper} {o : Oper} {a : Act} {w : World} {Q : Exit → Act → World → Prop} (hgd : o.guard = none) (t e : TypeId) (x : Operand) (ho : o.op = .convert t t x) (g n c : Nat) {C : Array Value} (hx : a.eval x = .slice (some ⟨g, 0, none⟩) n c) (hg : ∃ fr, w.heap[g]? = some (.cells C e fr)) (ht : P.underlying t = some (.slice e)) (he : P.underlying e = some (.int .u8))
    (h : wpList P ops Q rest (a.put o.dst (.slice (some ⟨g, 0, none⟩) n c)) (w.freeze ⟨g, C.size, none⟩ 1)) : wpList P ops Q (o :: rest) a w := by
  refine wpList_plain hgd fun K hK => ?_
  exact wp_mark t e x ho g n c hx hg ht he (hK _ _ h)
end Go.Proofs.YtohmjfagbhnieaaGreatDoor

namespace Go.Proofs.YtohmjfagbhnieaaGreatDoor
set_option linter.unusedVariables false
set_option linter.unusedSimpArgs false
open Go.RowKit

theorem sz47 : (⟨#[47]⟩ : ByteArray).size = 1 := rfl
theorem sz00 : (⟨#[]⟩ : ByteArray).size = 0 := rfl
theorem sz46 : (⟨#[47, 46]⟩ : ByteArray).size = 2 := rfl
theorem sz47b : (⟨#[47, 46, 46, 47]⟩ : ByteArray).size = 4 := rfl
theorem conv_none (g : Nat) (w : World) : (convert 22 9 (.slice (some ⟨g, 0, none⟩) 0 0)).run Tryz.prog w = .ok (.string ⟨#[]⟩) w := by
  rw [run_convert_bytes_string w 22 9 5 _ _ 0 Tryz.underlying22 Tryz.underlying5 Tryz.underlying9]
  exact run_bytesToString w ⟨g, 0, none⟩ 0 0 [] (by simpa using run_loadCells_list (P := Tryz.prog) w ⟨g, 0, none⟩ [] (by simp))
theorem make0 (w : World) : (Instr.makeSlice 22 (.int .i64 0) (.int .i64 0)).run Tryz.prog w = .ok (.slice (some ⟨w.heap.size, 0, none⟩) 0 0) (w.alloc (.cells #[] 5)) := by kernel_rfl
theorem rd_one (w : World) : Rd .u8 (w.alloc (.cells #[.int .u8 120] 5)) (.slice (some ⟨w.heap.size, 0, none⟩) 1 1) [120] := by
  refine ⟨some ⟨w.heap.size, 0, none⟩, 1, rfl, by unfold maxLen; simp, fun _ => ⟨w.heap.size, 0, rfl, by simp, fun i hi => ?_⟩, by simp, by unfold maxLen; simp⟩
  obtain rfl : i = 0 := by simp at hi; omega
  exact (Blk.new w #[.int .u8 120] 5).cell 0
theorem conv_rdP {w : World} {v : Value} {xs : List Int} (h : Rd .u8 w v xs) : (convert 22 9 v).run Tryz.prog w = .ok (.string (strOfNums xs)) w := by
  obtain ⟨a, cap, rfl, hm, hc, h1, h2⟩ := h
  by_cases hne : xs = []
  · subst hne
    rw [run_convert_bytes_string w 22 9 5 _ _ cap Tryz.underlying22 Tryz.underlying5 Tryz.underlying9]
    cases a with
    | none => simp [Conv.bytesToString]; rfl
    | some ad =>
      exact run_bytesToString w ad 0 cap [] (by simpa using run_loadCells_list (P := Tryz.prog) w ad [] (by simp))
  · obtain ⟨b, off, rfl, _, hcell⟩ := hc hne
    exact run_convert_bytes_arg w 22 5 Tryz.underlying22 Tryz.underlying5 b off xs.length cap xs rfl hcell 9 Tryz.underlying9
theorem wpList_convP {ops : Array Oper} {rest : List Oper} {o : Oper} {a : Act} {w : World} {Q : Exit → Act → World → Prop} (hgd : o.guard = none) (x : Operand) (ho : o.op = .convert 22 9 x) (v : Value) (hx : a.eval x = v) (xs : List Int) (hr : Rd .u8 w v xs)
    (h : wpList Tryz.prog ops Q rest (a.put o.dst (.string (strOfNums xs))) w) : wpList Tryz.prog ops Q (o :: rest) a w := by
  refine wpList_plain hgd fun K hK => ?_
  unfold Oper.wp execOp
  simp only [ho, hx, Sem.run_bind, Sem.run_pure, Result.andThen_ok, conv_rdP hr]
  exact hK _ _ h
def pths1 : List ByteArray := [⟨#[]⟩, ⟨#[97]⟩, ⟨#[47, 47, 97, 47, 47, 47, 98, 47]⟩, ⟨#[47, 97, 47, 46, 47, 98, 47, 46, 46, 47, 99]⟩, ⟨#[47, 46, 46]⟩, ⟨#[47, 46]⟩, ⟨#[47, 97, 47, 46, 46]⟩, ⟨#[47, 97, 47, 46]⟩, ⟨#[47, 0]⟩, ⟨#[47, 46, 115, 110, 97, 112, 115, 104, 111, 116]⟩, ⟨#[47, 97, 47, 46, 115, 110, 97, 112, 115, 104, 111, 116]⟩]
theorem pths1_le : ∀ s ∈ pths1, s.size ≤ 27 := by decide

set_option maxRecDepth 100000 in
set_option maxHeartbeats 4000000 in
theorem path_drawn {w0 W : World} {b : Nat} {cv : Value} {cs : List Int} (h : Sc w0 W b cv cs) (B : Nat) (hB : Blk W B nodes0 61) :
    Calls Tryz.prog 19 #[.pointer (some ⟨b, 0, none⟩), .agg #[.int .i64 1, .slice (some ⟨B, 0, none⟩) 2 2]] W fun e w' => ∃ s : ByteArray, e = .returned (.string s) ∧ s.size ≤ 600 ∧ Sc w0 w' b cv cs ∧ W.grownBy w' (some b) := by
  have HL := hide (show ∀ o : Obj, Blk (W.alloc o) B nodes0 61 from fun o => hB.alloc o)
  have HD := hide (show ∀ o : Obj, Dn w0 W (W.alloc o) b cv cs from fun o => (Dn.start h).own ((Below.refl _ _).alloc (Nat.le_refl _) o))
  clear h hB
  go_enter Tryz.func19, Tryz.ntmps19
  go_wp2_with fail
  refine (list_new B _ (HL.out _)).mono ?_
  rintro e w1 ⟨g, rfl, hb⟩
  have H1 := hide ((HD.out _).own (hb.mono (by simp)))
  clear hb
  go_wp2_with fail
  refine (H1.out.sc.N 16 (by omega) (by omega)).mono ?_
  rintro e w2 ⟨z, rfl, hz0, hz1, s2, d2⟩
  have H2 := hide (H1.out.draw s2 d2)
  clear s2 d2 HL HD H1
  have hz : z = 0 ∨ z = 1 ∨ z = 2 ∨ z = 3 ∨ z = 4 ∨ ((z == 0) = false ∧ (z == 1) = false ∧ (z == 2) = false ∧ (z == 3) = false ∧ (z == 4) = false) := by
    rcases (by omega : z = 0 ∨ z = 1 ∨ z = 2 ∨ z = 3 ∨ z = 4 ∨ 5 ≤ z) with h | h | h | h | h | h
    · exact .inl h
    · exact .inr (.inl h)
    · exact .inr (.inr (.inl h))
    · exact .inr (.inr (.inr (.inl h)))
    · exact .inr (.inr (.inr (.inr (.inl h))))
    · exact .inr (.inr (.inr (.inr (.inr ⟨by simp; omega, by simp; omega, by simp; omega, by simp; omega, by simp; omega⟩))))
  clear hz0 hz1
  rcases hz with rfl | rfl | rfl | rfl | rfl | ⟨n0, n1, n2, n3, n4⟩
  · go_wp2
    go_ret
    exact ⟨_, rfl, by decide, H2.out.sc, H2.out.gb⟩
  · have HA := hide (H2.out.own (show Below W.heap.size w2 (w2.alloc (.cells (cellsS pths1) 9)) from (Below.refl _ _).alloc H2.out.gb.size _))
    have KA := hide (Blk.new w2 (cellsS pths1) 9)
    go_wp2_with fail
    refine (HA.out.sc.N 11 (by omega) (by omega)).mono ?_
    rintro e w3 ⟨z, rfl, hz0, hz1, s3, d3⟩
    have H3 := hide (HA.out.draw s3 d3)
    obtain ⟨y, cy, hy⟩ := cell_ofS (HA.out.blk KA.out d3 H2.out.gb.size) 27 pths1_le z hz0 (by simpa [pths1] using hz1)
    clear s3 d3
    go_wp2
    go_ret
    exact ⟨_, rfl, by omega, H3.out.sc, H3.out.gb⟩
  · go_wp2_with fail
    refine (name_drawn H2.out.sc).mono ?_
    rintro e w3 ⟨sa, rfl, ha, s3, d3⟩
    have H3 := hide (H2.out.draw s3 d3)
    clear s3 d3
    go_wp2_with fail
    refine (name_drawn H3.out.sc).mono ?_
    rintro e w4 ⟨sb, rfl, hb, s4, d4⟩
    have H4 := hide (H3.out.draw s4 d4)
    clear s4 d4
    go_wp2_with fail
    refine (name_drawn H4.out.sc).mono ?_
    rintro e w5 ⟨sc, rfl, hc, s5, d5⟩
    have H5 := hide (H4.out.draw s5 d5)
    clear s5 d5
    go_wp2
    go_ret
    exact ⟨_, rfl, by simp; have := sz47; have := sz47b; omega, H5.out.sc, H5.out.gb⟩
  · go_wp2_with fail
    refine (H2.out.sc.One 10 (by omega) (by omega)).mono ?_
    rintro e w3 ⟨t, rfl, s3, d3⟩
    have H3 := hide (H2.out.draw s3 d3)
    clear s3 d3 H2
    cases t with
    | true =>
      go_wp2_with fail
      refine (H3.out.sc.N 4 (by omega) (by omega)).mono ?_
      rintro e w4 ⟨z, rfl, hz0, hz1, s4, d4⟩
      have H4 := hide (H3.out.draw s4 d4)
      clear s4 d4 H3
      go_wp2
      go_loopw [7, 8] (fun v i wr => ∃ (k : Int) (s : ByteArray), 0 ≤ k ∧ k ≤ 41 ∧ i = .int .i64 k ∧ v = .string s ∧ s.size + 2 * k.toNat ≤ 100 ∧ Dn w0 W wr b cv cs) (fun _ i _ => (intOf i).toNat)
      case atStart => exact ⟨38 + z, ⟨#[]⟩, by omega, by omega, rfl, rfl, by show 0 + 2 * (38 + z).toNat ≤ 100; omega, H4.out⟩
      case round =>
        clear H4
        obtain ⟨k, s, hk0, hk1, rfl, rfl, hs, hd⟩ := hrel
        have HK := hide hd
        clear hd
        by_cases hk : 0 < k
        · go_wp2
          go_roundw
          case rel => exact ⟨k - 1, s ++ ⟨#[47, 46]⟩, by omega, by omega, rfl, rfl, by simp; have := sz46; omega, HK.out⟩
          case measure => simp [intOf]; omega
        · go_wp2
          go_ret
          exact ⟨_, rfl, by omega, HK.out.sc, HK.out.gb⟩
    | false =>
      have hcv := conv_none
      have hmk := make0
      have HY := hide (H3.out.own (Below.refl W.heap.size w3).drew)
      clear H3
      have HX := hide (show ∀ o : Obj, Dn w0 W (w3.drew.alloc o) b cv cs from fun o => HY.out.own ((Below.refl _ _).alloc HY.out.gb.size o))
      go_wp2_with fail
      go_region_with (go_at_call 39; (first | (refine (name_drawn HY.out.sc).mono ?_; rintro e w5 ⟨sa, rfl, ha, s5, d5⟩; have H5 := hide (HY.out.draw s5 d5); clear s5 d5) | (refine (name_drawn (HX.out _).sc).mono ?_; rintro e w5 ⟨sa, rfl, ha, s5, d5⟩; have H5 := hide ((HX.out _).draw s5 d5); clear s5 d5)))
      all_goals
        go_wp2
        go_ret
        first
        | exact ⟨_, rfl, by simp; have := sz47; have := sz00; omega, H5.out.sc, H5.out.gb⟩
        | exact ⟨_, rfl, by simp; have := sz47; have := sz00; omega, (H5.out.own ((Below.refl _ _).alloc H5.out.gb.size _)).sc, (H5.out.own ((Below.refl _ _).alloc H5.out.gb.size _)).gb⟩
  · go_wp2_with fail
    refine (H2.out.sc.One 20 (by omega) (by omega)).mono ?_
    rintro e w3 ⟨t, rfl, s3, d3⟩
    have H3 := hide (H2.out.draw s3 d3)
    clear s3 d3 H2
    cases t with
    | true =>
      have HF := hide (show Dn w0 W ((w3.alloc (.cells #[.int .u8 120] 5)).freeze ⟨w3.heap.size, 1, none⟩ 1) b cv cs ∧ Rd .u8 ((w3.alloc (.cells #[.int .u8 120] 5)).freeze ⟨w3.heap.size, 1, none⟩ 1) (.slice (some ⟨w3.heap.size, 0, none⟩) 1 1) [120] from
        ⟨H3.out.own (freeze_below ((Below.refl _ _).alloc H3.out.gb.size _) _ _ H3.out.gb.size), (rd_one w3).freeze _ _⟩)
      have HG := hide (show ∃ fr, (w3.alloc (.cells #[.int .u8 120] 5)).heap[w3.heap.size]? = some (.cells #[.int .u8 120] 5 fr) from ⟨(0, 0), Blk.new w3 _ _⟩)
      have HLE := hide H3.out.gb.size
      go_wp2_with (first | (refine wpList_mark rfl 22 5 (.tmp 97) rfl w3.heap.size 1 1 rfl HG.out Tryz.underlying22 Tryz.underlying5 ?_) | fail)
      refine (HF.out.1.sc.N 2 (by omega) (by omega)).mono ?_
      rintro e w4 ⟨z, rfl, hz0, hz1, s4, d4⟩
      have hr4 : Rd .u8 w4 (.slice (some ⟨w3.heap.size, 0, none⟩) 1 1) [120] := by
        have hne : w3.heap.size ≠ b := by have := HLE.out; have := H3.out.lt; omega
        obtain ⟨a, cap, e1, h2, h3, h4⟩ := HF.out.2
        refine ⟨a, cap, e1, h2, fun hx => ?_, h4⟩
        obtain ⟨c, off, rfl, hlt, hcell⟩ := h3 hx
        injection e1 with e1 _ _
        injection e1 with e1
        injection e1 with e1 e2
        subst e1
        refine ⟨_, off, rfl, Nat.lt_of_lt_of_le hlt d4.size, fun i hi => ?_⟩
        rw [← hcell i hi]
        unfold World.cell?
        rw [d4.block _ hlt (fun e => hne (Option.some.inj e))]
      have H4 := hide (And.intro (HF.out.1.draw s4 d4) hr4)
      clear s4 d4 HF HG hr4
      obtain ⟨m, hm⟩ : ∃ m : Nat, (512 : Int) - z = (m : Int) := ⟨(512 - z).toNat, by omega⟩
      have hm1 : 510 ≤ m := by omega
      have hm2 : m ≤ 512 := by omega
      go_wp2_with fail
      refine (fill_any _ [120] m w4 H4.out.2 (by simp) (by simp; omega) (by omega)).mono ?_
      rintro e w5 ⟨v5, rfl, o5, b5⟩
      obtain ⟨xs, hxs⟩ : ∃ xs : List Int, xs = [120] ++ List.replicate (m - [(120 : Int)].length) 0 := ⟨_, rfl⟩
      rw [← hxs] at o5
      have hxl : xs.length = m := by rw [hxs]; simp; omega
      have hr5 := Rd.own o5
      have H5 := hide (H4.out.1.own (b5.mono H4.out.1.gb.size))
      have HX := hide (And.intro hr5 hxl)
      have hs6 : (strOfNums xs).size ≤ 512 := by rw [strOfNums_size]; omega
      clear hr5 hxl hxs o5 b5 H4
      go_wp2_with (first | (refine wpList_convP rfl (.tmp 102) rfl v5 rfl xs HX.out.1 ?_) | fail)
      go_ret
      exact ⟨_, rfl, by simp; have := sz47; omega, H5.out.sc, H5.out.gb⟩
    | false =>
      go_wp2_with fail
      refine (name_drawn H3.out.sc).mono ?_
      rintro e w4 ⟨sa, rfl, ha, s4, d4⟩
      have H4 := hide (H3.out.draw s4 d4)
      clear s4 d4
      go_wp2
      go_ret
      exact ⟨_, rfl, by simp; have := sz47; omega, H4.out.sc, H4.out.gb⟩
  · go_wp2_with fail
    refine (name_drawn H2.out.sc).mono ?_
    rintro e w3 ⟨sa, rfl, ha, s3, d3⟩
    have H3 := hide (H2.out.draw s3 d3)
    clear s3 d3
    go_wp2
    go_ret
    exact ⟨_, rfl, by simp; have := sz47; omega, H3.out.sc, H3.out.gb⟩
end Go.Proofs.YtohmjfagbhnieaaGreatDoor

namespace Go.Proofs.YtohmjfagbhnieaaGreatDoor
set_option linter.unusedVariables false
set_option linter.unusedSimpArgs false
open Go.RowKit

def trgs1 : List ByteArray := [⟨#[]⟩, ⟨#[47, 120, 0]⟩, ⟨#[116, 104, 105, 115, 110, 97, 109, 101, 105, 115, 116, 111, 111, 108, 111, 110, 103, 102, 111, 114, 97, 102, 105, 108, 101, 115, 121, 115, 116, 101, 109]⟩, ⟨#[47]⟩, ⟨#[47, 47]⟩]
theorem trgs1_le : ∀ s ∈ trgs1, s.size ≤ 31 := by decide
theorem tz1 : (⟨#[46, 46, 47]⟩ : ByteArray).size = 3 := rfl
theorem tz2 : (⟨#[46, 47]⟩ : ByteArray).size = 2 := rfl
theorem tz3 : (⟨#[46]⟩ : ByteArray).size = 1 := rfl

set_option maxRecDepth 100000 in
set_option maxHeartbeats 4000000 in
theorem target_drawn {w0 W : World} {b : Nat} {cv : Value} {cs : List Int} (h : Sc w0 W b cv cs) (B : Nat) (hB : Blk W B nodes0 61) (hne : B ≠ b) :
    Calls Tryz.prog 22 #[.pointer (some ⟨b, 0, none⟩), .agg #[.int .i64 1, .slice (some ⟨B, 0, none⟩) 2 2]] W fun e w' => ∃ s : ByteArray, e = .returned (.string s) ∧ s.size ≤ 600 ∧ Sc w0 w' b cv cs ∧ W.grownBy w' (some b) := by
  have HD := hide (show Dn w0 W (W.alloc (.cells #[.int .i64 1, .slice (some ⟨B, 0, none⟩) 2 2] 35)) b cv cs from (Dn.start h).own ((Below.refl _ _).alloc (Nat.le_refl _) _))
  have HL := hide (show Blk (W.alloc (.cells #[.int .i64 1, .slice (some ⟨B, 0, none⟩) 2 2] 35)) B nodes0 61 from hB.alloc _)
  have HS := hide (Blk.new W #[.int .i64 1, .slice (some ⟨B, 0, none⟩) 2 2] 35)
  have hsb : W.heap.size ≠ b := by have := h.src.lt; omega
  clear h hB
  go_enter Tryz.func22, Tryz.ntmps22
  go_wp2_with fail
  refine (HD.out.sc.N 6 (by omega) (by omega)).mono ?_
  rintro e w2 ⟨z, rfl, hz0, hz1, s2, d2⟩
  have H2 := hide (HD.out.draw s2 d2)
  have hB2 := HL.out.drawn d2 hne
  have hS2 := HS.out.drawn d2 hsb
  have c0 := (hS2.cell 0).trans (show _ = some (.int .i64 1) from rfl)
  have c1 := (hS2.cell 1).trans (show _ = some (.slice (some ⟨B, 0, none⟩) 2 2) from rfl)
  have KB := hide hB2
  clear s2 d2 HD HL HS hB2 hS2
  have hz : z = 0 ∨ z = 1 ∨ z = 2 ∨ z = 3 ∨ ((z == 0) = false ∧ (z == 1) = false ∧ (z == 2) = false ∧ (z == 3) = false) := by
    rcases (by omega : z = 0 ∨ z = 1 ∨ z = 2 ∨ z = 3 ∨ 4 ≤ z) with h | h | h | h | h
    · exact .inl h
    · exact .inr (.inl h)
    · exact .inr (.inr (.inl h))
    · exact .inr (.inr (.inr (.inl h)))
    · exact .inr (.inr (.inr (.inr ⟨by simp; omega, by simp; omega, by simp; omega, by simp; omega⟩)))
  clear hz0 hz1
  rcases hz with rfl | rfl | rfl | rfl | ⟨n0, n1, n2, n3⟩
  · go_wp2_with fail
    refine (name_drawn H2.out.sc).mono ?_
    rintro e w3 ⟨sa, rfl, ha, t3, d3⟩
    have H3 := hide (H2.out.draw t3 d3)
    clear t3 d3
    go_wp2
    go_ret
    exact ⟨_, rfl, by omega, H3.out.sc, H3.out.gb⟩
  · go_wp2_with fail
    refine (name_drawn H2.out.sc).mono ?_
    rintro e w3 ⟨sa, rfl, ha, t3, d3⟩
    have H3 := hide (H2.out.draw t3 d3)
    clear t3 d3
    go_wp2
    go_ret
    exact ⟨_, rfl, by simp; have := sz47; have := tz1; have := tz2; omega, H3.out.sc, H3.out.gb⟩
  · go_wp2
    go_ret
    exact ⟨_, rfl, by decide, H2.out.sc, H2.out.gb⟩
  · go_wp2_with fail
    refine (H2.out.sc.One 12 (by omega) (by omega)).mono ?_
    rintro e w3 ⟨t, rfl, s3, d3⟩
    have H3 := hide (H2.out.draw s3 d3)
    clear s3 d3 H2
    cases t with
    | true =>
      have HA := hide (H3.out.own (show Below W.heap.size w3 (w3.alloc (.cells (cellsS trgs1) 9)) from (Below.refl _ _).alloc H3.out.gb.size _))
      have KA := hide (Blk.new w3 (cellsS trgs1) 9)
      go_wp2_with fail
      refine (HA.out.sc.N 5 (by omega) (by omega)).mono ?_
      rintro e w4 ⟨z, rfl, hz0, hz1, s4, d4⟩
      have H4 := hide (HA.out.draw s4 d4)
      obtain ⟨y, cy, hy⟩ := cell_ofS (HA.out.blk KA.out d4 H3.out.gb.size) 31 trgs1_le z hz0 (by simpa [trgs1] using hz1)
      clear s4 d4
      go_wp2
      go_ret
      exact ⟨_, rfl, by omega, H4.out.sc, H4.out.gb⟩
    | false =>
      go_wp2_with fail
      refine (name_drawn H3.out.sc).mono ?_
      rintro e w4 ⟨sa, rfl, ha, t4, d4⟩
      have H4 := hide (H3.out.draw t4 d4)
      clear t4 d4
      go_wp2_with fail
      refine (name_drawn H4.out.sc).mono ?_
      rintro e w5 ⟨sb, rfl, hb, t5, d5⟩
      have H5 := hide (H4.out.draw t5 d5)
      clear t5 d5
      go_wp2
      go_ret
      exact ⟨_, rfl, by simp; have := sz47; have := tz1; have := tz2; omega, H5.out.sc, H5.out.gb⟩
  · go_wp2_with fail
    refine (path_drawn H2.out.sc B KB.out).mono ?_
    rintro e w3 ⟨sa, rfl, ha, s3, d3⟩
    have H3 := hide (H2.out.draw s3 d3)
    clear s3 d3
    go_wp2
    go_ret
    exact ⟨_, rfl, by omega, H3.out.sc, H3.out.gb⟩
end Go.Proofs.YtohmjfagbhnieaaGreatDoor

namespace Go.Proofs.YtohmjfagbhnieaaGreatDoor
set_option linter.unusedVariables false
set_option linter.unusedSimpArgs false
open Go.RowKit

theorem own_setB {w : World} {base g n cap k : Nat} {e : TypeId} {zs : List Int} (h : w.ownsRow base e 1 (.slice (some ⟨g, 0, none⟩) n cap) n (zs.map (Value.int .u8))) (d : Int) : (w.setCell ⟨g, k, none⟩ (.int .u8 d)).ownsRow base e 1 (.slice (some ⟨g, 0, none⟩) n cap) n ((zs.set k d).map (Value.int .u8)) := by
  rcases h.2 with ⟨e1, _⟩ | ⟨g', cap', cur, e1, hb, hc, hn, hm, hs, ht⟩
  · cases e1
  · injection e1 with e1 e2 e3
    injection e1 with e1
    injection e1 with e1 e4
    subst e1
    subst e3
    refine ⟨by simpa using h.1, .inr ⟨g, cap, cur.setIfInBounds k (.int .u8 d), rfl, hb, heap_setCell_same w g k cur e _ hc, hn, hm, by simpa using hs, ?_⟩⟩
    rw [Array.toList_setIfInBounds, List.take_set, ht, List.map_set]
theorem own_cellB {w : World} {base g n cap k : Nat} {e : TypeId} {zs : List Int} (h : w.ownsRow base e 1 (.slice (some ⟨g, 0, none⟩) n cap) n (zs.map (Value.int .u8))) (hk : k < n) : (∃ y : Value, w.cell? ⟨g, k, none⟩ = some y) ∧ w.frozen? ⟨g, k, none⟩ = false := by
  rcases h.2 with ⟨e1, _⟩ | ⟨g', cap', cur, e1, hb, hc, hn, hm, hs, ht⟩
  · cases e1
  · injection e1 with e1 e2 e3
    injection e1 with e1
    injection e1 with e1 e4
    subst e1
    have hB : Blk w g cur _ := hc
    refine ⟨⟨_, (hB.cell k).trans (Array.getElem?_eq_getElem (by rw [hs]; omega))⟩, hB.frozen _⟩
theorem own_baseB {w : World} {base g n cap : Nat} {e : TypeId} {xs : List Value} (h : w.ownsRow base e 1 (.slice (some ⟨g, 0, none⟩) n cap) n xs) : base ≤ g := (h.lt g rfl).1
theorem Byt.put {zs : List Int} {d : Int} (h : Byt zs) (k : Nat) (h0 : 0 ≤ d) (h1 : d < 256) : Byt (zs.set k d) := by
  intro y hy
  rcases List.mem_or_eq_of_mem_set hy with hy | rfl
  · exact h y hy
  · exact ⟨h0, h1⟩
theorem Dn.put {w0 W wr : World} {b g k : Nat} {cv : Value} {cs : List Int} (h : Dn w0 W wr b cv cs) (hg : W.heap.size ≤ g) (u : Value) : Dn w0 W (wr.setCell ⟨g, k, none⟩ u) b cv cs := h.own ((Below.refl _ _).setCell (p := ⟨g, k, none⟩) hg u)
theorem make512f (w : World) : (Instr.makeSlice 22 (.int .i64 512) (.int .i64 512)).run Tryz.prog w = .ok (.slice (some ⟨w.heap.size, 0, none⟩) 512 512) (w.alloc (.cells (Array.replicate 512 (.int .u8 0)) 5)) := by kernel_rfl
theorem zeros512 : (Array.replicate 512 (Value.int .u8 0)).toList = (List.replicate 512 (0 : Int)).map (Value.int .u8) := by rw [Array.toList_replicate, List.map_replicate]

set_option maxRecDepth 100000 in
set_option maxHeartbeats 4000000 in
theorem block_drawn {w0 W : World} {b : Nat} {cv : Value} {cs : List Int} (h : Sc w0 W b cv cs) :
    Calls Tryz.prog 23 #[.pointer (some ⟨b, 0, none⟩)] W fun e w' => ∃ (v : Value) (zs : List Int), e = .returned v ∧ zs.length = 512 ∧ Byt zs ∧ w'.ownsRow W.heap.size 5 1 v 512 (zs.map (Value.int .u8)) ∧ Sc w0 w' b cv cs ∧ W.grownBy w' (some b) := by
  obtain ⟨Z, hZ⟩ : ∃ Z : Array Value, Z = Array.replicate 512 (.int .u8 0) := ⟨_, rfl⟩
  obtain ⟨zs, hzs⟩ : ∃ zs : List Int, zs = List.replicate 512 0 := ⟨_, rfl⟩
  have HZ := hide (And.intro (show zs.length = 512 by rw [hzs]; simp) (show Byt zs by rw [hzs]; intro z hz; rw [List.eq_of_mem_replicate hz]; omega))
  have hmk : ∀ w : World, (Instr.makeSlice 22 (.int .i64 512) (.int .i64 512)).run Tryz.prog w = .ok (.slice (some ⟨w.heap.size, 0, none⟩) 512 512) (w.alloc (.cells Z 5)) := fun w => by rw [hZ]; exact make512f w
  have H0 := hide (show Dn w0 W (W.alloc (.cells Z 5)) b cv cs ∧ (W.alloc (.cells Z 5)).ownsRow W.heap.size 5 1 (.slice (some ⟨W.heap.size, 0, none⟩) 512 512) 512 (zs.map (Value.int .u8)) from
    ⟨(Dn.start h).own ((Below.refl _ _).alloc (Nat.le_refl _) _), by
      have h1 := World.ownsRow_lit (base := W.heap.size) (e := 5) (size := 1) W Z 512 (Nat.le_refl _) (by unfold maxLen; omega) (by rw [hZ]; simp)
      rw [hzs, ← zeros512, ← hZ]
      exact h1⟩)
  clear h hZ hzs
  go_enter Tryz.func23, Tryz.ntmps23
  go_wp2_with fail
  refine (H0.out.1.sc.N 4 (by omega) (by omega)).mono ?_
  rintro e w1 ⟨z, rfl, hz0, hz1, s1, d1⟩
  have H1 := hide (And.intro (H0.out.1.draw s1 d1) (H0.out.1.row H0.out.2 d1 (Nat.le_refl _)))
  clear s1 d1 H0 hmk
  have hz : z = 0 ∨ z = 1 ∨ ((z == 0) = false ∧ (z == 1) = false) := by
    rcases (by omega : z = 0 ∨ z = 1 ∨ 2 ≤ z) with h | h | h
    · exact .inl h
    · exact .inr (.inl h)
    · exact .inr (.inr ⟨by simp; omega, by simp; omega⟩)
  clear hz0 hz1
  rcases hz with rfl | rfl | ⟨n0, n1⟩
  · go_wp2
    go_ret
    exact ⟨_, zs, rfl, HZ.out.1, HZ.out.2, H1.out.2, H1.out.1.sc, H1.out.1.gb⟩
  · go_wp2_with fail
    refine (bytes_drawn H1.out.1.sc 512 (by omega)).mono ?_
    rintro e w2 ⟨v, ys, rfl, hl, hB, ho, s2, d2⟩
    have H2 := hide (H1.out.1.draw s2 d2)
    have HY := hide (And.intro hl (And.intro hB (own_mono ho H1.out.1.gb.size)))
    clear s2 d2 hl hB ho
    go_wp2
    go_ret
    exact ⟨_, ys, rfl, HY.out.1, HY.out.2.1, HY.out.2.2, H2.out.sc, H2.out.gb⟩
  · go_wp2_with fail
    refine (H1.out.1.sc.N 3 (by omega) (by omega)).mono ?_
    rintro e w2 ⟨c, rfl, hc0, hc1, s2, d2⟩
    have H2 := hide (And.intro (H1.out.1.draw s2 d2) (H1.out.1.row H1.out.2 d2 (Nat.le_refl _)))
    clear s2 d2 H1
    go_wp2
    go_loopw [22] (fun i wr => ∃ (k : Nat) (ys : List Int), k ≤ 512 ∧ i = .int .i64 k ∧ ys.length = 512 ∧ Byt ys ∧ Dn w0 W wr b cv cs ∧ wr.ownsRow W.heap.size 5 1 (.slice (some ⟨W.heap.size, 0, none⟩) 512 512) 512 (ys.map (Value.int .u8))) (fun i _ => 512 - (intOf i).toNat)
    case atStart => exact ⟨0, zs, by omega, rfl, HZ.out.1, HZ.out.2, H2.out.1, H2.out.2⟩
    case round =>
      clear H2 HZ
      obtain ⟨k, ys, hk, rfl, hl, hB, hd, ho⟩ := hrel
      have HK := hide (And.intro hd ho)
      have HB := hide (And.intro hl hB)
      clear hd ho hl hB
      by_cases hkn : k < 512
      · obtain ⟨⟨y, cy⟩, fy⟩ := own_cellB HK.out.2 hkn
        go_wp2
        go_roundw
        case rel => exact ⟨k + 1, ys.set k (1 + c), by omega, by go_num, by rw [List.length_set]; exact HB.out.1, HB.out.2.put k (by omega) (by omega), HK.out.1.put (Nat.le_refl _) _, own_setB HK.out.2 _⟩
        case measure => simp [intOf]; omega
      · obtain rfl : k = 512 := by omega
        go_wp2_with fail
        refine (HK.out.1.sc.N 512 (by omega) (by omega)).mono ?_
        rintro e w3 ⟨p, rfl, hp0, hp1, s3, d3⟩
        have H3 := hide (And.intro (HK.out.1.draw s3 d3) (HK.out.1.row HK.out.2 d3 (Nat.le_refl _)))
        clear s3 d3 HK
        go_wp2_with fail
        refine (H3.out.1.sc.N 256 (by omega) (by omega)).mono ?_
        rintro e w4 ⟨q, rfl, hq0, hq1, s4, d4⟩
        have H4 := hide (And.intro (H3.out.1.draw s4 d4) (H3.out.1.row H3.out.2 d4 (Nat.le_refl _)))
        clear s4 d4 H3
        obtain ⟨⟨y, cy⟩, fy⟩ := own_cellB H4.out.2 (show p.toNat < 512 by omega)
        go_wp2
        go_ret
        exact ⟨_, ys.set p.toNat q, rfl, by rw [List.length_set]; exact HB.out.1, HB.out.2.put _ hq0 (by omega), own_setB H4.out.2 _, (H4.out.1.put (Nat.le_refl _) _).sc, (H4.out.1.put (Nat.le_refl _) _).gb⟩
end Go.Proofs.YtohmjfagbhnieaaGreatDoor
