/- Structs and arrays of integers by value: a copy of twelve, a copy of a root. A copy of a root: toRoot. The model's look at a root: l02Pointer, l02Pointers, l02Root. The model's look at a root, whole: l02Root; its bytes: l02RootBytes; EncodeRoot. EncodeWords, the model's and the program's: both give encW. append to an owned row: where it moves, it moves to new memory. -/
import Derived.Test.YtkbbnflblkkepaaGreatDoorZm01
import Derived.Test.YtkbbnflblkkepaaGreatDoorRows
import Derived.Test.YtkbbnflblkkepaaGreatDoorZm06
import Derived.WalkLawsBesides
import Derived.Deep.MidRow
import Derived.Deep.WholeRow
import Derived.Laws.CopyOwn
import Derived.Test.YtkbbnflblkkepaaGreatDoorZm05
import Derived.Test.YtkbbnflblkkepaaGreatDoorZm03
import Derived.OwnWalk
import Derived.ArgAppend
namespace Go.Proofs.YtkbbnflblkkepaaGreatDoor
set_option linter.unusedVariables false
set_option linter.unusedSimpArgs false
open Go.RowKit

theorem info12 : (Tryz.prog.info? 32).map (·.size) = some 12 := by kernel_rfl
theorem info15 : (Tryz.prog.info? 34).map (·.size) = some 15 := by kernel_rfl

end Go.Proofs.YtkbbnflblkkepaaGreatDoor

namespace Go.Proofs.YtkbbnflblkkepaaGreatDoor
set_option linter.unusedVariables false
set_option linter.unusedSimpArgs false
open Go.RowKit

/-- The fifteen integers of a root. -/
def rootI (s : Int) (ds : List Int) (p q : Int) : List Int := s :: (ds ++ [p, q])
theorem rootI_len (s : Int) (ds : List Int) (p q : Int) (hd : ds.length = 12) : (rootI s ds p q).length = 15 := by simp [rootI, hd]
theorem rootI_get13 (s : Int) (ds : List Int) (p q : Int) (hd : ds.length = 12) : (cellsI (rootI s ds p q))[13]? = some (.int .i64 p) := by
  rw [cellsI_get _ _ (by rw [rootI_len s ds p q hd]; omega)]
  match ds, hd with | [_, _, _, _, _, _, _, _, _, _, _, _], _ => rfl
theorem rootI_get14 (s : Int) (ds : List Int) (p q : Int) (hd : ds.length = 12) : (cellsI (rootI s ds p q))[14]? = some (.int .i64 q) := by
  rw [cellsI_get _ _ (by rw [rootI_len s ds p q hd]; omega)]
  match ds, hd with | [_, _, _, _, _, _, _, _, _, _, _, _], _ => rfl
theorem root_build (s : Int) (ds : List Int) (p q : Int) (hd : ds.length = 12) : ((over (s :: List.replicate 14 0) 1 ds).set 13 p).set 14 q = rootI s ds p q := by
  match ds, hd with | [_, _, _, _, _, _, _, _, _, _, _, _], _ => rfl
theorem root_range (s : Int) (ds : List Int) (p q : Int) (hd : ds.length = 12) : ((rootI s ds p q).drop 1).take 12 = ds := by
  match ds, hd with | [_, _, _, _, _, _, _, _, _, _, _, _], _ => rfl

theorem over_at {w2 : World} {b : Nat} {t : TypeId} (s : Int) (ds : List Int) (hd : ds.length = 12) (h : Blk w2 b (cellsI (over (s :: List.replicate 14 0) 1 ds)) t) (k : Nat) (hk : k < 15) : ∃ u, w2.cell? ⟨b, k, none⟩ = some u := by
  rw [h.cell k]
  exact ⟨_, Array.getElem?_eq_getElem (by rw [cellsI_size, over_len _ _ _ (by simp [hd])]; simpa using hk)⟩

end Go.Proofs.YtkbbnflblkkepaaGreatDoor

namespace Go.Proofs.YtkbbnflblkkepaaGreatDoor
set_option linter.unusedVariables false
set_option linter.unusedSimpArgs false
open Go.RowKit

def ptrB (x n : Int) : Bool := decide (x = 0) || (decide (2 ≤ x) && decide (x < n))
theorem pointer_any (x : Int) (w : World) : Calls Tryz.prog 87 #[.int .i64 x] w fun e w' => e = .returned (.bool (ptrB x 2048)) ∧ w = w' := by
  have HP := hide (show ptrB x 2048 = (decide (x = 0) || (decide (2 ≤ x) && decide (x < 2048))) from rfl)
  by_cases h0 : x = 0
  · subst h0
    go_enter Tryz.func87, Tryz.ntmps87
    go_wp2
    go_ret
    exact ⟨rfl, rfl⟩
  · have hq : (x == 0) = false := by simp [h0]
    have HD := hide (show decide (x = 0) = false from by simp [h0])
    clear h0
    by_cases h2 : 2 ≤ x
    · by_cases h3 : x < 2048
      all_goals
        have HR := hide (show ptrB x 2048 = decide (x < 2048) from by rw [HP.out, HD.out]; simp [h2])
        go_enter Tryz.func87, Tryz.ntmps87
        go_wp2
        go_ret
        exact ⟨ret_bool (by rw [HR.out]; simp; try omega), rfl⟩
    · have hq2 : decide (2 ≤ x) = false := by simp; omega
      have HR := hide (show ptrB x 2048 = false from by rw [HP.out, HD.out, hq2]; rfl)
      go_enter Tryz.func87, Tryz.ntmps87
      go_wp2
      go_ret
      exact ⟨ret_bool (by rw [HR.out]), rfl⟩

set_option maxRecDepth 100000 in
set_option maxHeartbeats 1000000 in
theorem pointers_any (s : Int) (ds : List Int) (p q : Int) (w : World) (hd : ds.length = 12) :
    Calls Tryz.prog 58 #[.agg (cellsI (rootI s ds p q))] w fun e w' => ∃ v', e = .returned v' ∧ w'.ownsRow w.heap.size 3 1 v' 14 ((ds ++ [p, q]).map (Value.int .i64)) ∧ Below w.heap.size w w' := by
  obtain ⟨i0, hi, hz0, hz1, hz2⟩ := info_parts infoI64
  have HD := hide hd
  have kB := Blk.new w (cellsI (rootI s ds p q)) 34
  have h0 := own_empty (w.alloc (.cells (cellsI (rootI s ds p q)) 34)) 3
  rw [World.size_alloc] at h0
  have hr : ∀ j u, (ds.map (Value.int .i64))[j]? = some u → ((w.alloc (.cells (cellsI (rootI s ds p q)) 34)).alloc (.cells #[] 3)).cell? ((⟨w.heap.size, 1, none⟩ : Addr).add j) = some u := by
    intro j u hu
    have h := (kB.alloc (.cells #[] 3)).range 1 12 (by rw [rootI_len _ _ _ _ HD.out]; omega)
    rw [root_range _ _ _ _ HD.out] at h
    rw [Addr.add_mid]
    exact h j u hu
  have hb0 : Below w.heap.size w ((w.alloc (.cells (cellsI (rootI s ds p q)) 34)).alloc (.cells #[] 3)) := ((Below.refl _ _).alloc (Nat.le_refl _) _).alloc (by simp) _
  have K := hide (And.intro h0 (And.intro hr (And.intro hb0 (kB.alloc (.cells #[] 3)))))
  clear hd h0 hr hb0 kB
  go_enter Tryz.func58, Tryz.ntmps58
  go_wp2_with (first | (at_builtin; refine wpList_append_own _ rfl (.tmp 4) (.tmp 6) 23 rfl (w.heap.size + 1) 3 i0 (.int .i64 0) 1 8 Tryz.underlying23 hi hz0 hz1 hz2 rfl (by decide) (.slice (some ⟨w.heap.size + 1, 0, none⟩) 0 0) 0 [] rfl K.out.1 ⟨w.heap.size, 1, none⟩ 12 12 (ds.map (Value.int .i64)) rfl (by rw [List.length_map, HD.out]) K.out.2.1 (ints_oneCell _ _) (by unfold maxLen; omega) (by omega) (by simp) ?_; intro v1 w1 hown1 hgr1 _; have a13 := hgr1.cell (a := ⟨w.heap.size, 13, none⟩) ((K.out.2.2.2.cell 13).trans (rootI_get13 s ds p q HD.out)) (by simp [Value.ownBlock]); have a14 := hgr1.cell (a := ⟨w.heap.size, 14, none⟩) ((K.out.2.2.2.cell 14).trans (rootI_get14 s ds p q HD.out)) (by simp [Value.ownBlock]); have H1 := hide (And.intro hown1 hgr1); clear hown1 hgr1) | (at_builtin; refine wpList_append_own _ rfl (.tmp 8) (.tmp 13) 23 rfl (w.heap.size + 1) 3 i0 (.int .i64 0) 1 8 Tryz.underlying23 hi hz0 hz1 hz2 rfl (by decide) v1 _ _ rfl (H1.out.1.alloc _) ⟨w1.heap.size, 0, none⟩ 2 2 [.int .i64 p, .int .i64 q] rfl rfl (cell_two_new _ _ _ _) (ints_oneCell .i64 [p, q]) (by unfold maxLen; omega) (by omega) (by have := H1.out.2.size; simp at this ⊢; omega) ?_; intro v2 w2 hown2 hgr2 _))
  go_ret
  refine ⟨_, rfl, own_mono (base := w.heap.size + 1) ?_ (by omega), ?_⟩
  · have e : (ds ++ [p, q]).map (Value.int .i64) = [] ++ ds.map (Value.int .i64) ++ [.int .i64 p, .int .i64 q] := by simp
    rw [e]
    exact hown2
  · have hs1 := H1.out.2.size
    have hl1 := H1.out.1.lt
    refine (((K.out.2.2.1.grown H1.out.2 (by simp; omega) (fun k h => by simp [Value.ownBlock] at h; omega)).alloc (by simp at hs1; omega) _).grown hgr2 (by simp at hs1 ⊢; omega) (fun k h => by have := (hl1 k h).1; omega))
end Go.Proofs.YtkbbnflblkkepaaGreatDoor

namespace Go.Proofs.YtkbbnflblkkepaaGreatDoor
set_option linter.unusedVariables false
set_option linter.unusedSimpArgs false
open Go.RowKit

def lst (i : Nat) : Int := if i = 13 then 140 else i
def okAt (B : Int) (i : Nat) (x : Int) : Bool := ptrB x 2048 && (decide (x = 0) || decide (lst i < B))
def allR (s : Int) (pts : List Int) (n : Nat) : Bool := (List.range n).all fun i => okAt ((s + 511) / 512) i (pts.getD i 0)
def rightR (s : Int) (ds : List Int) (p q : Int) : Bool := (decide (0 ≤ s) && decide (s ≤ 262144)) && allR s (ds ++ [p, q]) 14
theorem allR_succ (s : Int) (pts : List Int) (n : Nat) : allR s pts (n + 1) = (allR s pts n && okAt ((s + 511) / 512) n (pts.getD n 0)) := by simp [allR, List.range_succ]
theorem allR_bad (s : Int) (pts : List Int) (n k : Nat) (hk : k < n) (h : okAt ((s + 511) / 512) k (pts.getD k 0) = false) : allR s pts n = false := by
  unfold allR
  rw [List.all_eq_false]
  exact ⟨k, by simpa using hk, by rw [h]; simp⟩

theorem okT (s : Int) (k : Nat) (z L : Int) (hp : ptrB z 2048 = true) (hL : lst k = L) (h : (z != 0) = false ∨ L < (s + 512 - 1) / 512) : okAt ((s + 511) / 512) k z = true := by
  unfold okAt
  rw [hp, hL]
  have e : s + 512 - 1 = s + 511 := by omega
  rw [e] at h
  rcases h with h | h
  · simp at h; simp [h]
  · simp [h]
theorem okT0 (s : Int) (k : Nat) (z : Int) (hp : ptrB z 2048 = true) (h : z = 0) : okAt ((s + 511) / 512) k z = true := by
  unfold okAt
  rw [hp]
  simp [h]
theorem okF (s : Int) (k : Nat) (z L : Int) (hL : lst k = L) (h : (z != 0) = true ∧ (s + 512 - 1) / 512 ≤ L) : okAt ((s + 511) / 512) k z = false := by
  unfold okAt
  have e : s + 512 - 1 = s + 511 := by omega
  rw [e] at h
  rw [hL]
  have h1 : ¬ z = 0 := by simpa using h.1
  have h2 : ¬ L < (s + 511) / 512 := by omega
  simp [h1, h2]
theorem lst_cases (k : Nat) : (((k : Int) == 12) = true ∧ ((k : Int) == 13) = false ∧ lst k = 12) ∨ (((k : Int) == 12) = false ∧ ((k : Int) == 13) = true ∧ lst k = 140) ∨ (((k : Int) == 12) = false ∧ ((k : Int) == 13) = false ∧ lst k = (k : Int)) := by
  by_cases h12 : k = 12
  · subst h12; exact .inl ⟨rfl, rfl, rfl⟩
  · by_cases h13 : k = 13
    · subst h13; exact .inr (.inl ⟨rfl, rfl, rfl⟩)
    · refine .inr (.inr ⟨by simp; omega, by simp; omega, ?_⟩)
      unfold lst
      rw [if_neg h13]

set_option maxRecDepth 100000 in
set_option maxHeartbeats 2000000 in
theorem l02Root_any (s : Int) (ds : List Int) (p q : Int) (w : World) (hd : ds.length = 12) :
    Calls Tryz.prog 57 #[.agg (cellsI (rootI s ds p q))] w fun e w' => e = .returned (.bool (rightR s ds p q)) ∧ Below w.heap.size w w' := by
  have HD := hide hd
  have hb0 : Below w.heap.size w (w.alloc (.cells (cellsI (rootI s ds p q)) 34)) := (Below.refl _ _).alloc (Nat.le_refl _) _
  have c0 : (w.alloc (.cells (cellsI (rootI s ds p q)) 34)).cell? ⟨w.heap.size, 0, none⟩ = some (.int .i64 s) := by
    rw [(Blk.new w _ _).cell 0]; rfl
  have HZ := hide (show (cellsI (rootI s ds p q)).size = 15 from by rw [cellsI_size]; exact rootI_len s ds p q HD.out)
  clear hd
  by_cases h1 : 0 ≤ s
  · by_cases h2 : s ≤ 262144
    · have HR := hide (show rightR s ds p q = allR s (ds ++ [p, q]) 14 from by unfold rightR; simp [h1, h2])
      have HL := hide (show (ds ++ [p, q]).length = 14 from by simp [HD.out])
      go_enter Tryz.func57, Tryz.ntmps57
      go_wp2_with (first | (refine wpList_load_row rfl 34 _ rfl w.heap.size rfl 34 (cellsI (rootI s ds p q)) (0, 0) _ (Blk.new w _ _) Tryz.underlying34 rfl (by rw [HZ.out]; exact info15) ?_) | (go_at_call 58; fail))
      refine (pointers_any s ds p q _ HD.out).mono ?_
      rintro e w1 ⟨v1, rfl, o1, b1⟩
      obtain ⟨bd, off, cap, rfl, hbw, _, _, hcell⟩ := (Rd.own o1).partsC (by rw [HL.out]; omega)
      rw [HL.out] at hcell ⊢
      have HB := hide (hb0.trans (b1.mono hb0.size))
      generalize ds ++ [p, q] = pts at hcell HR
      clear o1 b1 hb0 c0
      go_wp2
      go_loop [23] (fun i => ∃ k : Nat, k ≤ 14 ∧ i = .int .i64 k ∧ allR s pts k = true) (fun i => 14 - (intOf i).toNat)
      case atStart => exact ⟨0, by omega, rfl, rfl⟩
      case round =>
        obtain ⟨k, hk, rfl, hall⟩ := hrel
        have HA := hide hall
        clear hall
        by_cases hlt : k < 14
        · have cz := hcell k hlt
          have HS := hide (show allR s pts (k + 1) = (allR s pts k && okAt ((s + 511) / 512) k (pts.getD k 0)) ∧ (okAt ((s + 511) / 512) k (pts.getD k 0) = false → allR s pts 14 = false) from ⟨allR_succ s pts k, allR_bad s pts 14 k hlt⟩)
          clear hcell
          generalize pts.getD k 0 = z at cz HS
          have hok : okAt ((s + 511) / 512) k z = (ptrB z 2048 && (decide (z = 0) || decide (lst k < (s + 511) / 512))) := rfl
          cases hpt : ptrB z 2048 with
          | false =>
            have HF := hide (HS.out.2 (by rw [hok, hpt]; rfl))
            clear hok
            go_wp2_with (go_at_call 87; refine (pointer_any z _).mono ?_; rintro e w' ⟨rfl, rfl⟩; rw [hpt])
            all_goals go_ret
            all_goals exact ⟨ret_bool (by rw [HR.out, HF.out]), HB.out⟩
          | true =>
            have HP := hide hpt
            clear hok
            rcases lst_cases k with ⟨e12, e13, hL⟩ | ⟨e12, e13, hL⟩ | ⟨e12, e13, hL⟩
            all_goals
              have HLk := hide hL
              clear hL
              go_wp2_with (go_at_call 87; refine (pointer_any z _).mono ?_; rintro e w' ⟨rfl, rfl⟩; rw [hpt])
              all_goals first
                | (have HF := HS.out.2 (okF s k z _ HLk.out ‹_›)
                   go_ret
                   exact ⟨ret_bool (by rw [HR.out, HF]), HB.out⟩)
                | (have hT : okAt ((s + 511) / 512) k z = true := by first | exact okT0 s k z HP.out ‹_› | exact okT s k z _ HP.out HLk.out ‹_›
                   go_round
                   case rel => exact ⟨k + 1, by omega, by go_num, by rw [HS.out.1, HA.out, hT]; rfl⟩
                   case measure => simp [intOf]; omega)
        · have e14 : k = 14 := by omega
          subst e14
          go_wp2
          go_ret
          exact ⟨ret_bool (by rw [HR.out, HA.out]), HB.out⟩
    · have HR := hide (show rightR s ds p q = false from by unfold rightR; simp [h2])
      go_enter Tryz.func57, Tryz.ntmps57
      go_wp2
      go_ret
      exact ⟨ret_bool (by rw [HR.out]), hb0⟩
  · have HR := hide (show rightR s ds p q = false from by unfold rightR; simp [h1])
    go_enter Tryz.func57, Tryz.ntmps57
    go_wp2
    go_ret
    exact ⟨ret_bool (by rw [HR.out]), hb0⟩
end Go.Proofs.YtkbbnflblkkepaaGreatDoor

namespace Go.Proofs.YtkbbnflblkkepaaGreatDoor
open Go.RowKit

def okW (v : Int) : Bool := decide (0 ≤ v) && decide (v ≤ 4294967295)
def bytesW (ws : List Int) : List Int := ws.flatMap fun v => le 4 v.toNat
def goodW (ws : List Int) : Bool := decide (ws.length = 128) && ws.all okW
def encW (ws : List Int) : List Int := if goodW ws = true then bytesW ws else []
def codeW (ws : List Int) : Int := if goodW ws = true then 0 else 7

theorem bytesW_len (ws : List Int) : (bytesW ws).length = 4 * ws.length := by
  unfold bytesW
  induction ws with
  | nil => rfl
  | cons v ws ih => rw [List.flatMap_cons, List.length_append, ih, le_len, List.length_cons]; omega
theorem bytesW_take (ws : List Int) (k : Nat) (h : k < ws.length) : bytesW (ws.take (k + 1)) = bytesW (ws.take k) ++ le 4 (ws.getD k 0).toNat := by
  unfold bytesW
  rw [List.take_succ_eq_append_getElem h, List.flatMap_append]
  simp [List.getD, h]
theorem all_take (ws : List Int) (k : Nat) (h : k < ws.length) : (ws.take (k + 1)).all okW = ((ws.take k).all okW && okW (ws.getD k 0)) := by
  rw [List.take_succ_eq_append_getElem h, List.all_append]
  simp [List.getD, h]
theorem bad_of_get (ws : List Int) (k : Nat) (h : k < ws.length) (hb : okW (ws.getD k 0) = false) : goodW ws = false := by
  unfold goodW
  rw [Bool.and_eq_false_iff]
  right
  rw [List.all_eq_false]
  refine ⟨ws.getD k 0, ?_, by rw [hb]; simp⟩
  simp [List.getD, h]

end Go.Proofs.YtkbbnflblkkepaaGreatDoor

namespace Go.Proofs.YtkbbnflblkkepaaGreatDoor
open Go.RowKit

theorem append_fresh {P : Program} (w : World) {ops : Array Oper} {rest : List Oper} {o : Oper} {a : Act} {Q : Exit → Act → World → Prop}
    (hg : o.guard = none) (s x : Operand) (t : TypeId) (hop : o.op = Op.call { callee := Callee.builtin Builtin.append, args := #[s, x], argTypes := #[t, t] })
    (base : Nat) (e : TypeId) (i : TypeInfo) (z : Value) (size bytes : Nat) (h1 : P.underlying t = some (.slice e)) (h2 : P.info? e = some i) (h3 : i.zero = some z) (h4 : i.size = size) (h5 : i.bytes = bytes) (h6 : z.cells.size = size) (h7 : 0 < size)
    (v : Value) (n : Nat) (xs : List Value) (hs : a.eval s = v) (hown : w.ownsRow base e size v n xs)
    (ad : Addr) (m c : Nat) (news : List Value) (hx : a.eval x = .slice (some ad) m c) (hn : news.length = m * size) (hc : ∀ j u, news[j]? = some u → w.cell? (ad.add j) = some u) (h1c : ∀ u ∈ news, u.oneCell' = true)
    (hm : 0 < m) (b1 : n + m ≤ maxLen) (b2 : (n + m) * bytes ≤ 140737488355328) (b3 : base ≤ w.heap.size)
    (hK : ∀ v' w', w'.ownsRow base e size v' (n + m) (xs ++ news) → w.grownBy w' v.ownBlock → (∀ k, v'.ownBlock = some k → v.ownBlock = some k ∨ w.heap.size ≤ k) → wpList P ops Q rest (a.put o.dst v') w') :
    wpList P ops Q (o :: rest) a w := by
  have weak : ∀ w', w.grownBy w' none → ∀ r, w.grownBy w' r := fun w' h r => ⟨h.os, h.tape, h.output, h.size, fun k hk _ => h.block k hk (by simp)⟩
  rcases hown.2 with ⟨rfl, rfl⟩ | ⟨g, cap, cur, rfl, hb, hgr, hnc, hcm, hcs, htake⟩
  · have hx0 : xs = [] := List.eq_nil_of_length_eq_zero (by simpa using hown.1)
    subst hx0
    refine wpList_append_grows w hg s x t hop e i z size bytes h1 h2 h3 h4 h5 h6 h7 none 0 0 [] hs (fun _ => ⟨rfl, rfl⟩) (by simp) (fun b h => by cases h) ad m c news hx hn hc h1c (by omega) b1 b2 ?_
    intro v' w' r1 r2
    exact hK v' w' (own_mono r1 b3) (weak w' r2 _) (fun k hk => .inr (r1.lt k hk).1)
  · by_cases hroom : n + m ≤ cap
    · refine wpList_append_fits w hg s x t hop base e i size h1 h2 h4 g n cap xs hs hown ad m c news hx hn hc h1c hroom ?_
      intro w' r1 r2
      exact hK _ w' r1 r2 (fun k hk => .inl hk)
    · refine wpList_append_grows w hg s x t hop e i z size bytes h1 h2 h3 h4 h5 h6 h7 (some ⟨g, 0, none⟩) n cap xs hs (fun h => by cases h) hown.1 (fun b h j u hj => by cases h; exact hown.cells (g := g) rfl j u hj) ad m c news hx hn hc h1c (by omega) b1 b2 ?_
      intro v' w' r1 r2
      exact hK v' w' (own_mono r1 b3) (weak w' r2 _) (fun k hk => .inr (r1.lt k hk).1)
end Go.Proofs.YtkbbnflblkkepaaGreatDoor
