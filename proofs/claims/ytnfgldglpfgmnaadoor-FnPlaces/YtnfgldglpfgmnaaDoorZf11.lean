/- The model's look at a root, whole: l02Root; its bytes: l02RootBytes; EncodeRoot. EncodeWords, the model's and the program's: both give encW. append to an owned row: where it moves, it moves to new memory. The model's EncodeRoot. -/
import Derived.Test.YtnfgldglpfgmnaaDoorZf10
import Derived.Test.YtnfgldglpfgmnaaDoorZf07
import Derived.Test.YtnfgldglpfgmnaaDoorZf05
import Derived.Test.YtnfgldglpfgmnaaDoorZf08
import Derived.Test.YtnfgldglpfgmnaaDoorZf01
import Derived.OwnWalk
import Derived.ArgAppend
namespace Go.Proofs.YtnfgldglpfgmnaaDoor
set_option linter.unusedVariables false
set_option linter.unusedSimpArgs false
open Go.RowKit

def lst (i : Nat) : Int := if i = 13 then 140 else i
def okAt (B : Int) (i : Nat) (x : Int) : Bool := ptrB x 2048 && (decide (x = 0) || decide (lst i < B))
def allR (s : Int) (pts : List Int) (n : Nat) : Bool := (List.range n).all fun i => okAt ((s + 511) / 512) i (pts.getD i 0)
def rightR (s : Int) (ds : List Int) (p q : Int) : Bool := (decide (0 ≤ s) && decide (s ≤ 262144)) && allR s (ds ++ [p, q]) 14
theorem allR_succ (s : Int) (pts : List Int) (n : Nat) : allR s pts (n + 1) = (allR s pts n && okAt ((s + 511) / 512) n (pts.getD n 0)) := by simp [allR, List.range_succ]
theorem allR_bad (s : Int) (pts : List Int) (n k : Nat) (hk : k < n) (h : okAt ((s + 511) / 512) k (pts.getD k 0) = false) : allR s pts n = false := by
  unfold allR
  rw [List.all_eq_false]
  exact ⟨k, by simpa using hk, by rw [h]; simp⟩

theorem okT (s : Int) (k : Nat) (z L : Int) (hp : ptrB z 2048 = true) (hL : lst k = L) (h : (z != 0) = false ∨ L < (s + 512 - 1) / 512) : okAt ((s + 511) / 512) k z = true := by
  unfold okAt
  rw [hp, hL]
  have e : s + 512 - 1 = s + 511 := by omega
  rw [e] at h
  rcases h with h | h
  · simp at h; simp [h]
  · simp [h]
theorem okT0 (s : Int) (k : Nat) (z : Int) (hp : ptrB z 2048 = true) (h : z = 0) : okAt ((s + 511) / 512) k z = true := by
  unfold okAt
  rw [hp]
  simp [h]
theorem okF (s : Int) (k : Nat) (z L : Int) (hL : lst k = L) (h : (z != 0) = true ∧ (s + 512 - 1) / 512 ≤ L) : okAt ((s + 511) / 512) k z = false := by
  unfold okAt
  have e : s + 512 - 1 = s + 511 := by omega
  rw [e] at h
  rw [hL]
  have h1 : ¬ z = 0 := by simpa using h.1
  have h2 : ¬ L < (s + 511) / 512 := by omega
  simp [h1, h2]
theorem lst_cases (k : Nat) : (((k : Int) == 12) = true ∧ ((k : Int) == 13) = false ∧ lst k = 12) ∨ (((k : Int) == 12) = false ∧ ((k : Int) == 13) = true ∧ lst k = 140) ∨ (((k : Int) == 12) = false ∧ ((k : Int) == 13) = false ∧ lst k = (k : Int)) := by
  by_cases h12 : k = 12
  · subst h12; exact .inl ⟨rfl, rfl, rfl⟩
  · by_cases h13 : k = 13
    · subst h13; exact .inr (.inl ⟨rfl, rfl, rfl⟩)
    · refine .inr (.inr ⟨by simp; omega, by simp; omega, ?_⟩)
      unfold lst
      rw [if_neg h13]

set_option maxRecDepth 100000 in
set_option maxHeartbeats 2000000 in
theorem l02Root_any (s : Int) (ds : List Int) (p q : Int) (w : World) (hd : ds.length = 12) :
    Calls Tryd.prog 54 #[.agg (cellsI (rootI s ds p q))] w fun e w' => e = .returned (.bool (rightR s ds p q)) ∧ Below w.heap.size w w' := by
  have HD := hide hd
  have hb0 : Below w.heap.size w (w.alloc (.cells (cellsI (rootI s ds p q)) 34)) := (Below.refl _ _).alloc (Nat.le_refl _) _
  have c0 : (w.alloc (.cells (cellsI (rootI s ds p q)) 34)).cell? ⟨w.heap.size, 0, none⟩ = some (.int .i64 s) := by
    rw [(Blk.new w _ _).cell 0]; rfl
  have HZ := hide (show (cellsI (rootI s ds p q)).size = 15 from by rw [cellsI_size]; exact rootI_len s ds p q HD.out)
  clear hd
  by_cases h1 : 0 ≤ s
  · by_cases h2 : s ≤ 262144
    · have HR := hide (show rightR s ds p q = allR s (ds ++ [p, q]) 14 from by unfold rightR; simp [h1, h2])
      have HL := hide (show (ds ++ [p, q]).length = 14 from by simp [HD.out])
      go_enter Tryd.func54, Tryd.ntmps54
      go_wp2_with (first | (refine wpList_load_row rfl 34 _ rfl w.heap.size rfl 34 (cellsI (rootI s ds p q)) (0, 0) _ (Blk.new w _ _) Tryd.underlying34 rfl (by rw [HZ.out]; exact info15) ?_) | (go_at_call 55; fail))
      refine (pointers_any s ds p q _ HD.out).mono ?_
      rintro e w1 ⟨v1, rfl, o1, b1⟩
      obtain ⟨bd, off, cap, rfl, hbw, _, _, hcell⟩ := (Rd.own o1).partsC (by rw [HL.out]; omega)
      rw [HL.out] at hcell ⊢
      have HB := hide (hb0.trans (b1.mono hb0.size))
      generalize ds ++ [p, q] = pts at hcell HR
      clear o1 b1 hb0 c0
      go_wp2
      go_loop [23] (fun i => ∃ k : Nat, k ≤ 14 ∧ i = .int .i64 k ∧ allR s pts k = true) (fun i => 14 - (intOf i).toNat)
      case atStart => exact ⟨0, by omega, rfl, rfl⟩
      case round =>
        obtain ⟨k, hk, rfl, hall⟩ := hrel
        have HA := hide hall
        clear hall
        by_cases hlt : k < 14
        · have cz := hcell k hlt
          have HS := hide (show allR s pts (k + 1) = (allR s pts k && okAt ((s + 511) / 512) k (pts.getD k 0)) ∧ (okAt ((s + 511) / 512) k (pts.getD k 0) = false → allR s pts 14 = false) from ⟨allR_succ s pts k, allR_bad s pts 14 k hlt⟩)
          clear hcell
          generalize pts.getD k 0 = z at cz HS
          have hok : okAt ((s + 511) / 512) k z = (ptrB z 2048 && (decide (z = 0) || decide (lst k < (s + 511) / 512))) := rfl
          cases hpt : ptrB z 2048 with
          | false =>
            have HF := hide (HS.out.2 (by rw [hok, hpt]; rfl))
            clear hok
            go_wp2_with (go_at_call 85; refine (pointer_any z _).mono ?_; rintro e w' ⟨rfl, rfl⟩; rw [hpt])
            all_goals go_ret
            all_goals exact ⟨ret_bool (by rw [HR.out, HF.out]), HB.out⟩
          | true =>
            have HP := hide hpt
            clear hok
            rcases lst_cases k with ⟨e12, e13, hL⟩ | ⟨e12, e13, hL⟩ | ⟨e12, e13, hL⟩
            all_goals
              have HLk := hide hL
              clear hL
              go_wp2_with (go_at_call 85; refine (pointer_any z _).mono ?_; rintro e w' ⟨rfl, rfl⟩; rw [hpt])
              all_goals first
                | (have HF := HS.out.2 (okF s k z _ HLk.out ‹_›)
                   go_ret
                   exact ⟨ret_bool (by rw [HR.out, HF]), HB.out⟩)
                | (have hT : okAt ((s + 511) / 512) k z = true := by first | exact okT0 s k z HP.out ‹_› | exact okT s k z _ HP.out HLk.out ‹_›
                   go_round
                   case rel => exact ⟨k + 1, by omega, by go_num, by rw [HS.out.1, HA.out, hT]; rfl⟩
                   case measure => simp [intOf]; omega)
        · have e14 : k = 14 := by omega
          subst e14
          go_wp2
          go_ret
          exact ⟨ret_bool (by rw [HR.out, HA.out]), HB.out⟩
    · have HR := hide (show rightR s ds p q = false from by unfold rightR; simp [h2])
      go_enter Tryd.func54, Tryd.ntmps54
      go_wp2
      go_ret
      exact ⟨ret_bool (by rw [HR.out]), hb0⟩
  · have HR := hide (show rightR s ds p q = false from by unfold rightR; simp [h1])
    go_enter Tryd.func54, Tryd.ntmps54
    go_wp2
    go_ret
    exact ⟨ret_bool (by rw [HR.out]), hb0⟩
end Go.Proofs.YtnfgldglpfgmnaaDoor

namespace Go.Proofs.YtnfgldglpfgmnaaDoor
open Go.RowKit

def okW (v : Int) : Bool := decide (0 ≤ v) && decide (v ≤ 4294967295)
def bytesW (ws : List Int) : List Int := ws.flatMap fun v => le 4 v.toNat
def goodW (ws : List Int) : Bool := decide (ws.length = 128) && ws.all okW
def encW (ws : List Int) : List Int := if goodW ws = true then bytesW ws else []
def codeW (ws : List Int) : Int := if goodW ws = true then 0 else 7

theorem bytesW_len (ws : List Int) : (bytesW ws).length = 4 * ws.length := by
  unfold bytesW
  induction ws with
  | nil => rfl
  | cons v ws ih => rw [List.flatMap_cons, List.length_append, ih, le_len, List.length_cons]; omega
theorem bytesW_take (ws : List Int) (k : Nat) (h : k < ws.length) : bytesW (ws.take (k + 1)) = bytesW (ws.take k) ++ le 4 (ws.getD k 0).toNat := by
  unfold bytesW
  rw [List.take_succ_eq_append_getElem h, List.flatMap_append]
  simp [List.getD, h]
theorem all_take (ws : List Int) (k : Nat) (h : k < ws.length) : (ws.take (k + 1)).all okW = ((ws.take k).all okW && okW (ws.getD k 0)) := by
  rw [List.take_succ_eq_append_getElem h, List.all_append]
  simp [List.getD, h]
theorem bad_of_get (ws : List Int) (k : Nat) (h : k < ws.length) (hb : okW (ws.getD k 0) = false) : goodW ws = false := by
  unfold goodW
  rw [Bool.and_eq_false_iff]
  right
  rw [List.all_eq_false]
  refine ⟨ws.getD k 0, ?_, by rw [hb]; simp⟩
  simp [List.getD, h]

end Go.Proofs.YtnfgldglpfgmnaaDoor

namespace Go.Proofs.YtnfgldglpfgmnaaDoor
open Go.RowKit

theorem append_fresh {P : Program} (w : World) {ops : Array Oper} {rest : List Oper} {o : Oper} {a : Act} {Q : Exit → Act → World → Prop}
    (hg : o.guard = none) (s x : Operand) (t : TypeId) (hop : o.op = Op.call { callee := Callee.builtin Builtin.append, args := #[s, x], argTypes := #[t, t] })
    (base : Nat) (e : TypeId) (i : TypeInfo) (z : Value) (size bytes : Nat) (h1 : P.underlying t = some (.slice e)) (h2 : P.info? e = some i) (h3 : i.zero = some z) (h4 : i.size = size) (h5 : i.bytes = bytes) (h6 : z.cells.size = size) (h7 : 0 < size)
    (v : Value) (n : Nat) (xs : List Value) (hs : a.eval s = v) (hown : w.ownsRow base e size v n xs)
    (ad : Addr) (m c : Nat) (news : List Value) (hx : a.eval x = .slice (some ad) m c) (hn : news.length = m * size) (hc : ∀ j u, news[j]? = some u → w.cell? (ad.add j) = some u) (h1c : ∀ u ∈ news, u.oneCell' = true)
    (hm : 0 < m) (b1 : n + m ≤ maxLen) (b2 : (n + m) * bytes ≤ 140737488355328) (b3 : base ≤ w.heap.size)
    (hK : ∀ v' w', w'.ownsRow base e size v' (n + m) (xs ++ news) → w.grownBy w' v.ownBlock → (∀ k, v'.ownBlock = some k → v.ownBlock = some k ∨ w.heap.size ≤ k) → wpList P ops Q rest (a.put o.dst v') w') :
    wpList P ops Q (o :: rest) a w := by
  have weak : ∀ w', w.grownBy w' none → ∀ r, w.grownBy w' r := fun w' h r => ⟨h.os, h.tape, h.output, h.size, fun k hk _ => h.block k hk (by simp)⟩
  rcases hown.2 with ⟨rfl, rfl⟩ | ⟨g, cap, cur, rfl, hb, hgr, hnc, hcm, hcs, htake⟩
  · have hx0 : xs = [] := List.eq_nil_of_length_eq_zero (by simpa using hown.1)
    subst hx0
    refine wpList_append_grows w hg s x t hop e i z size bytes h1 h2 h3 h4 h5 h6 h7 none 0 0 [] hs (fun _ => ⟨rfl, rfl⟩) (by simp) (fun b h => by cases h) ad m c news hx hn hc h1c (by omega) b1 b2 ?_
    intro v' w' r1 r2
    exact hK v' w' (own_mono r1 b3) (weak w' r2 _) (fun k hk => .inr (r1.lt k hk).1)
  · by_cases hroom : n + m ≤ cap
    · refine wpList_append_fits w hg s x t hop base e i size h1 h2 h4 g n cap xs hs hown ad m c news hx hn hc h1c hroom ?_
      intro w' r1 r2
      exact hK _ w' r1 r2 (fun k hk => .inl hk)
    · refine wpList_append_grows w hg s x t hop e i z size bytes h1 h2 h3 h4 h5 h6 h7 (some ⟨g, 0, none⟩) n cap xs hs (fun h => by cases h) hown.1 (fun b h j u hj => by cases h; exact hown.cells (g := g) rfl j u hj) ad m c news hx hn hc h1c (by omega) b1 b2 ?_
      intro v' w' r1 r2
      exact hK v' w' (own_mono r1 b3) (weak w' r2 _) (fun k hk => .inr (r1.lt k hk).1)
end Go.Proofs.YtnfgldglpfgmnaaDoor

namespace Go.Proofs.YtnfgldglpfgmnaaDoor
set_option linter.unusedVariables false
set_option linter.unusedSimpArgs false
open Go.RowKit

def bytesR (s : Int) (ds : List Int) (p q : Int) : List Int := le 8 s.toNat ++ bytesW (ds ++ [p, q])
def encR (s : Int) (ds : List Int) (p q : Int) : List Int := if rightR s ds p q = true then bytesR s ds p q else []
def codeR (s : Int) (ds : List Int) (p q : Int) : Int := if rightR s ds p q = true then 0 else 7
theorem bytesR_len (s : Int) (ds : List Int) (p q : Int) (hd : ds.length = 12) : (bytesR s ds p q).length = 64 := by
  unfold bytesR
  rw [List.length_append, le_len, bytesW_len]
  simp [hd]
theorem encR_len (s : Int) (ds : List Int) (p q : Int) (hd : ds.length = 12) : (encR s ds p q).length ≤ 64 := by
  unfold encR
  split
  · rw [bytesR_len s ds p q hd]; omega
  · simp
theorem right_bd {s : Int} {ds : List Int} {p q : Int} (hd : ds.length = 12) (h : rightR s ds p q = true) : (0 ≤ s ∧ s ≤ 262144) ∧ ∀ z ∈ ds ++ [p, q], 0 ≤ z ∧ z < 2048 := by
  unfold rightR at h
  rw [Bool.and_eq_true, Bool.and_eq_true] at h
  refine ⟨⟨by simpa using h.1.1, by simpa using h.1.2⟩, fun z hz => ?_⟩
  obtain ⟨i, hi, rfl⟩ := List.getElem_of_mem hz
  have h2 := h.2
  unfold allR at h2
  rw [List.all_eq_true] at h2
  have h3 := h2 i (by simp at hi ⊢; omega)
  unfold okAt at h3
  rw [Bool.and_eq_true] at h3
  have h4 := h3.1
  have e : (ds ++ [p, q]).getD i 0 = (ds ++ [p, q])[i] := by rw [List.getD, List.getElem?_eq_getElem hi, Option.getD_some]
  rw [e] at h4
  unfold ptrB at h4
  simp at h4
  omega

end Go.Proofs.YtnfgldglpfgmnaaDoor
