/- The program lists a tree's blocks: list. The program's TreeBlocks. The model's lists of a tree: l03Cut, l03Some. The model's l03Same and l04Block. Inodes by value: twenty-four integers; the comparison with the empty one. Arrays compared. -/
import Derived.Test.YtlimollpocagiaaGreatDoorZr18
import Derived.Test.YtlimollpocagiaaGreatDoorZr04
import Derived.Test.YtlimollpocagiaaGreatDoorZr09
import Derived.ChangeKeysEq
import Derived.Test.YtlimollpocagiaaGreatDoorZr11
namespace Go.Proofs.YtlimollpocagiaaGreatDoor
set_option linter.unusedVariables false
set_option linter.unusedSimpArgs false
open Go.RowKit Go.Shelf
attribute [local go_sem] Oper.semAt_some

theorem Kq.grown {n₀ z : Nat} {Ty : TypeId → Prop} {W W' : World} {row : Option Nat} (hg : W.grownBy W' row) (hn : n₀ ≤ W.heap.size) (hr : ∀ r, row = some r → n₀ ≤ r ∧ ∃ C t, Blk W r C t ∧ Ty t) : Kq n₀ z Ty W W' := by
  refine ⟨(Below.refl _ _).grown hg hn (fun k e => (hr k e).1), fun k cs t fr hk hu => ?_, fun k o hk ho hc => ?_, hg.size⟩
  · refine (hg.block k (Array.getElem?_eq_some_iff.1 hk).1 (fun e => ?_)).trans hk
    obtain ⟨_, C, t', hb, ht⟩ := hr k e.symm
    have hb' : W.heap[k]? = some (.cells C t') := hb
    rw [hb'] at hk
    cases hk
    exact hu ht
  · refine (hg.block k (Array.getElem?_eq_some_iff.1 ho).1 (fun e => ?_)).trans ho
    obtain ⟨_, C, t', hb, ht⟩ := hr k e.symm
    have hb' : W.heap[k]? = some (.cells C t') := hb
    rw [hb'] at ho
    cases ho
    cases hc
theorem own_rowB {W : World} {base n : Nat} {e : TypeId} {v : Value} {xs : List Value} (h : W.ownsRow base e 1 v n xs) {r : Nat} (hr : v.ownBlock = some r) : base ≤ r ∧ ∃ C, Blk W r C e := by
  rcases h.2 with ⟨rfl, _⟩ | ⟨g, cap, cur, rfl, hb, hg, _⟩
  · cases hr
  · cases hr
    exact ⟨hb, cur, hg⟩
theorem own_abide {A B : World} {row : Option Nat} {base n z : Nat} {e : TypeId} {v : Value} {xs : List Value} (h : A.ownsRow base e 1 v n xs) (hg : A.grownBy B row) (hr : ∀ r, row = some r → z ≤ r ∧ ∃ o, A.heap[r]? = some o ∧ o.isCells = false) : B.ownsRow base e 1 v n xs := by
  refine h.kept hg ?_
  cases hb : v.ownBlock with
  | none => exact .inl rfl
  | some g =>
    refine .inr fun e => ?_
    obtain ⟨_, C, hC⟩ := own_rowB h hb
    obtain ⟨_, o, ho, hc⟩ := hr g e.symm
    have hC' : A.heap[g]? = some (.cells C _) := hC
    rw [hC'] at ho
    cases ho
    cases hc
/-- The numbers that were told. -/
def numX (pre : List TX) : List Int := pre.map (fun x => x.1.2.2)
/-- Between two rounds of list. -/
structure LstI (w : World) (C : Array Value) (Z : TL) (pre : List TX) (W : World) : Prop where
  told : ∃ A, pre = upX A ∧ A <+: Z.1
  box : ∃ lv, Blk W (w.heap.size + 3) #[lv] 29 ∧ W.ownsRow w.heap.size 3 1 lv pre.length ((numX pre).map (Value.int .i64))
  tree : Blk W w.heap.size C 87
  res1 : Blk W (w.heap.size + 1) #[.slice none 0 0] 29
  res2 : Blk W (w.heap.size + 2) #[.nilIface] 62
  old : Below w.heap.size w W
  size : w.heap.size + 7 ≤ W.heap.size
theorem LstI.abides {w : World} {z : Nat} {C : Array Value} {Z : TL} (hz : w.heap.size ≤ z) : AbidesZ z (LstI w C Z) := by
  intro pre A B row h hg hr
  obtain ⟨lv, h1, h2⟩ := h.box
  exact ⟨h.told, ⟨lv, blk_abide h1 hg hr, own_abide h2 hg hr⟩, blk_abide h.tree hg hr, blk_abide h.res1 hg hr, blk_abide h.res2 hg hr, below_abide h.old hz (by have := h.size; omega) hg hr, Nat.le_trans h.size hg.size⟩
theorem one_newH (W : World) (v : Value) (t : TypeId) : ∀ j u, [v][j]? = some u → (W.alloc (.cells #[v] t)).cell? ((⟨W.heap.size, 0, none⟩ : Addr).add j) = some u := fun j u hj => by
  cases j with
  | zero =>
    rw [Addr.add_mid]
    refine ((Blk.new W #[v] t).cell (0 + 0)).trans ?_
    simpa using hj
  | succ j => simp at hj
end Go.Proofs.YtlimollpocagiaaGreatDoor

namespace Go.Proofs.YtlimollpocagiaaGreatDoor
set_option linter.unusedVariables false
set_option linter.unusedSimpArgs false
open Go.RowKit

end Go.Proofs.YtlimollpocagiaaGreatDoor

namespace Go.Proofs.YtlimollpocagiaaGreatDoor
set_option linter.unusedVariables false
set_option linter.unusedSimpArgs false
open Go.RowKit

theorem rd_emptyI (w : World) (a : Option Addr) (c : Nat) (hc : c ≤ maxLen) : Rd .i64 w (.slice a 0 c) [] := ⟨a, c, rfl, by simp, fun h => absurd rfl h, by simp, hc⟩
theorem rd_capI {k : IntKind} {w : World} {a : Option Addr} {n c : Nat} {zs : List Int} (h : Rd k w (.slice a n c) zs) : n = zs.length ∧ n ≤ c ∧ c ≤ maxLen := by
  obtain ⟨a', c', e, _, _, h3, h4⟩ := h
  injection e with e1 e2 e3
  subst e1 e2 e3
  exact ⟨rfl, h3, h4⟩
set_option maxRecDepth 100000 in
theorem cut_res {w : World} {a : Option Addr} {cap : Nat} {L : List Int} (h : Rd .i64 w (.slice a L.length cap) L) (lo hi l2 h2 : Nat) (e1 : l2 = min lo L.length) (e2 : h2 = min hi L.length) (hlh : lo ≤ hi) :
    ∃ a', Rd .i64 w (.slice a' (h2 - l2) (cap - l2)) (cutM L lo hi) ∧ ∀ wx, (Instr.slice 29 (.slice a L.length cap) (some (.int .i64 (l2 : Int))) (some (.int .i64 (h2 : Int))) none).run Tryz.prog wx = .ok (.slice a' (h2 - l2) (cap - l2)) wx := by
  obtain ⟨i0, hi0, hz0, hz1, hz2⟩ := info_parts infoI64
  obtain ⟨_, hc1, hc2⟩ := rd_capI h
  refine ⟨if cap = l2 then a else a.map (·.add (l2 * 1)), ?_, fun wx => ?_⟩
  · by_cases hm : l2 < h2
    · have hne : 0 < L.length := by omega
      obtain ⟨b, off, cp, e, hb, hlc, hcm, hcell⟩ := h.partsC hne
      injection e with e1' e2' e3
      subst e1' e3
      have hr := Rd.cut2 l2 (h2 - l2) h (by omega) (by omega)
      have e4 : cutM L lo hi = (L.drop l2).take (h2 - l2) := by
        unfold cutM
        have : l2 = lo := by omega
        rw [this, List.take_eq_take_iff, List.length_drop]
        omega
      rw [e4, if_neg (by omega), Option.map_some, Nat.mul_one, Addr.add_mid]
      exact hr
    · have e4 : cutM L lo hi = [] := by
        unfold cutM
        apply List.eq_nil_of_length_eq_zero
        rw [List.length_take, List.length_drop]
        omega
      rw [e4, show h2 - l2 = 0 by omega]
      exact rd_emptyI _ _ _ (by omega)
  · rw [run_slice_lh (P := Tryz.prog) (w := wx) 29 _ _ cap (by rw [Tryz.underlying29]; rfl) .i64 .i64 (l2 : Int) (h2 : Int) (by omega) (by omega) (by omega)]
    simp [sizeOf, typeInfo, show Tryz.prog.elem 29 = 3 from by kernel_rfl, hi0, hz1, Result.andThen, sliced]
set_option maxRecDepth 100000 in
set_option maxHeartbeats 1000000 in
theorem cut_any (v : Value) (L : List Int) (lo hi : Nat) (w : World) (h : Rd .i64 w v L) (hlh : lo ≤ hi) (hhi : hi ≤ 1048576) (hl : L.length ≤ 1048576) :
    Calls Tryz.prog 47 #[v, .int .i64 (lo : Int), .int .i64 (hi : Int)] w fun e w' => ∃ a n c, e = .returned (.slice a n c) ∧ Rd .i64 w (.slice a n c) (cutM L lo hi) ∧ w' = w := by
  obtain ⟨a, cap, rfl⟩ := rd_shapeT h
  have HH := hide h
  clear h
  by_cases g1 : (L.length : Int) < (lo : Int)
  · have g2 : (L.length : Int) < (hi : Int) := by omega
    obtain ⟨a', hr, hsl⟩ := cut_res HH.out lo hi L.length L.length (by omega) (by omega) hlh
    have HP := hide hr
    clear hr hlh
    go_enter Tryz.func47, Tryz.ntmps47
    go_wp2
    go_ret
    exact ⟨_, _, _, rfl, by have := HP.out; rwa [Nat.sub_self] at this, rfl⟩
  · by_cases g2 : (L.length : Int) < (hi : Int)
    · obtain ⟨a', hr, hsl⟩ := cut_res HH.out lo hi lo L.length (by omega) (by omega) hlh
      have HP := hide hr
      clear hr hlh
      go_enter Tryz.func47, Tryz.ntmps47
      go_wp2
      go_ret
      exact ⟨_, _, _, rfl, HP.out, rfl⟩
    · obtain ⟨a', hr, hsl⟩ := cut_res HH.out lo hi lo hi (by omega) (by omega) hlh
      have HP := hide hr
      clear hr hlh
      go_enter Tryz.func47, Tryz.ntmps47
      go_wp2
      go_ret
      exact ⟨_, _, _, rfl, HP.out, rfl⟩
/-- An append of what is read, maybe nothing. -/
theorem wpList_append_rdI {P : Program} (w : World) {ops : Array Oper} {rest : List Oper} {o : Oper} {a : Act} {Q : Exit → Act → World → Prop}
    (hg : o.guard = none) (s x : Operand) (t : TypeId) (hop : o.op = Op.call { callee := Callee.builtin Builtin.append, args := #[s, x], argTypes := #[t, t] })
    (base : Nat) (e : TypeId) (i : TypeInfo) (h1 : P.underlying t = some (.slice e)) (h2 : P.info? e = some i) (h3 : i.zero = some (.int .i64 0)) (h4 : i.size = 1) (h5 : i.bytes = 8)
    (sv : Value) (n : Nat) (xs : List Int) (hs : a.eval s = sv) (hown : w.ownsRow base e 1 sv n (xs.map (Value.int .i64)))
    (v : Value) (zs : List Int) (hx : a.eval x = v) (hr : Rd .i64 w v zs) (hb : n + zs.length ≤ 1000000) (hbase : base ≤ w.heap.size)
    (hK : ∀ a' c' m w', m = n + zs.length → w'.ownsRow base e 1 (.slice a' m c') m ((xs ++ zs).map (Value.int .i64)) → Below base w w' → wpList P ops Q rest (a.put o.dst (.slice a' m c')) w') :
    wpList P ops Q (o :: rest) a w := by
  by_cases hz : 0 < zs.length
  · obtain ⟨bd, off, cp, rfl, hbw, _, _, hcell⟩ := hr.partsC hz
    refine wpList_append_own_at _ hg s x t hop base e i (.int .i64 0) 1 8 h1 h2 h3 h4 h5 rfl (by decide) sv n _ hs hown ⟨bd, off, none⟩ zs.length cp (zs.map (Value.int .i64)) hx (by simp) (fun j u hj => ?_) (ints_oneCell _ _) (by unfold maxLen; omega) (by omega) hbase ?_
    · have hjl : j < zs.length := by
        rcases Nat.lt_or_ge j zs.length with h | h
        · exact h
        · rw [List.getElem?_eq_none (by simpa using h)] at hj; cases hj
      rw [Addr.add_mid, hcell j hjl]
      rw [List.getElem?_map, List.getElem?_eq_getElem hjl] at hj
      simp at hj
      rw [← hj]
      simp [List.getD, hjl]
    · intro v' w' r1 r2 _ _
      obtain ⟨a', c', rfl⟩ := own_shapeT r1
      exact hK a' c' _ w' rfl (by rw [List.map_append]; exact r1) ((Below.refl _ _).grown r2 hbase (fun r e => (hown.lt r e).1))
  · have hz0 : zs = [] := List.eq_nil_of_length_eq_zero (by omega)
    subst hz0
    obtain ⟨a3, c3, rfl⟩ : ∃ a3 c3, v = .slice a3 0 c3 := by obtain ⟨a3, c3, e3, _⟩ := hr; exact ⟨a3, c3, e3⟩
    refine wpList_append_emptyM hg s x t hop base e i 1 h1 h2 _ n _ hs hown a3 c3 hx ?_
    obtain ⟨a', c', rfl⟩ := own_shapeT hown
    exact hK a' c' n w (by simp) (by simpa using hown) (Below.refl _ _)
end Go.Proofs.YtlimollpocagiaaGreatDoor

namespace Go.Proofs.YtlimollpocagiaaGreatDoor
set_option linter.unusedVariables false
set_option linter.unusedSimpArgs false
open Go.RowKit

def lenOfB : Value → Nat
  | .slice _ n _ => n
  | _ => 0
theorem cells_newI (w : World) (z : Int) : ∀ j u, [Value.int .i64 z][j]? = some u → (w.alloc (.cells #[.int .i64 z] 3)).cell? (Addr.add ⟨w.heap.size, 0, none⟩ j) = some u := by
  intro j u h
  rw [Addr.add_mid, Nat.zero_add, (Blk.new w #[.int .i64 z] 3).cell j]
  simpa using h
theorem part_cutN (ws : List Int) (N k : Nat) : (List.range N).map (fun j => ws.getD (k + j) 0) = (ws.drop k).take N ++ List.replicate (N - ((ws.drop k).take N).length) 0 := by
  apply List.ext_getElem?
  intro j
  rcases Nat.lt_or_ge j N with hj | hj
  · rw [List.getElem?_map, List.getElem?_range hj, Option.map_some]
    rcases Nat.lt_or_ge (k + j) ws.length with h | h
    · rw [List.getElem?_append_left (by rw [List.length_take, List.length_drop]; omega), List.getElem?_take, if_pos (by omega), List.getElem?_drop]
      simp [List.getD, h]
    · rw [List.getElem?_append_right (by rw [List.length_take, List.length_drop]; omega), List.getElem?_replicate, if_pos (by rw [List.length_take, List.length_drop]; omega)]
      simp [List.getD, List.getElem?_eq_none h]
  · rw [List.getElem?_eq_none (by rw [List.length_map, List.length_range]; omega), List.getElem?_eq_none (by rw [List.length_append, List.length_replicate, List.length_take, List.length_drop]; omega)]
theorem part_cut (ws : List Int) (k : Nat) : partW ws k = cutM ws (128 * k) (128 * k + 128) ++ List.replicate (128 - (cutM ws (128 * k) (128 * k + 128)).length) 0 := by
  unfold partW cutM
  rw [show 128 * k + 128 - 128 * k = 128 by omega]
  exact part_cutN ws 128 (128 * k)
set_option maxRecDepth 100000 in
set_option maxHeartbeats 1000000 in
theorem block_any (v : Value) (ws : List Int) (k : Nat) (w : World) (h : Rd .i64 w v ws) (hk : k ≤ 17) (hl : ws.length ≤ 2048) :
    Calls Tryz.prog 38 #[v, .int .i64 (k : Int)] w fun e w' => ∃ v', e = .returned v' ∧ w'.ownsRow w.heap.size 3 1 v' 128 ((partW ws k).map (Value.int .i64)) ∧ Below w.heap.size w w' := by
  obtain ⟨a, cap, rfl⟩ := rd_shapeT h
  obtain ⟨i0, hi, hz0, hz1, hz2⟩ := info_parts infoI64
  have HC := hide (fun (W : World) (hb : Below w.heap.size w W) => cut_any (.slice a ws.length cap) ws (128 * k) (128 * k + 128) W (h.below hb) (by omega) (by omega) (by omega))
  obtain ⟨cs, hcs⟩ : ∃ cs, cs = cutM ws (128 * k) (128 * k + 128) := ⟨_, rfl⟩
  rw [← hcs] at HC
  have HP := hide (part_cut ws k)
  rw [← hcs] at HP
  have hcl : cs.length ≤ 128 := by rw [hcs]; unfold cutM; rw [List.length_take]; omega
  clear h hcs
  obtain ⟨lo, hlo⟩ : ∃ lo, lo = 128 * k := ⟨_, rfl⟩
  obtain ⟨kl, hkl⟩ : ∃ kl, kl = ws.length := ⟨_, rfl⟩
  have B1 := hide (show Below w.heap.size w (w.alloc (.cells #[] 3)) from (Below.refl _ _).alloc (Nat.le_refl _) _)
  have HO := hide (show (w.alloc (.cells #[] 3)).ownsRow w.heap.size 3 1 (.slice (some ⟨w.heap.size, 0, none⟩) 0 0) 0 (([] : List Int).map (Value.int .i64)) from own_emptyM w 3 1)
  have HC1 := hide (show Calls Tryz.prog 47 #[.slice a kl cap, .int .i64 (128 * (k : Int)), .int .i64 (128 * (k : Int) + 128)] (w.alloc (.cells #[] 3)) fun e w' => ∃ a' n c, e = .returned (.slice a' n c) ∧ Rd .i64 (w.alloc (.cells #[] 3)) (.slice a' n c) cs ∧ w' = w.alloc (.cells #[] 3) from by
    have h := HC.out _ B1.out
    rw [← hkl, show ((128 * k : Nat) : Int) = 128 * (k : Int) by omega, show ((128 * k + 128 : Nat) : Int) = 128 * (k : Int) + 128 by omega] at h
    exact h)
  rw [← hkl]
  clear hlo hkl HC hl
  go_enter Tryz.func38, Tryz.ntmps38
  go_upto_region 2 with (first
    | (go_at_call 47
       refine HC1.out.mono ?_
       rintro e w1 ⟨ca, cn, cc, rfl, hr, hw1⟩
       rw [hw1]
       have HRc := hide hr
       clear hr hw1)
    | (at_builtin; refine wpList_append_rdI _ rfl (.tmp 6) (.tmp 13) 29 rfl w.heap.size 3 i0 Tryz.underlying29 hi hz0 hz1 hz2 _ 0 [] rfl HO.out _ cs rfl HRc.out (by omega) (by simp) ?_
       intro ra rc m2 w2 hm2 o2 b2
       have H2 := hide (And.intro hm2 (And.intro o2 b2))
       clear hm2 o2 b2)
    | fail)
  go_wp2
  go_loopw [5] (fun v wr => ∃ (m : Nat) (xa : Option Addr) (xc : Nat), cs.length ≤ m ∧ m ≤ 128 ∧ v = .slice xa m xc ∧ Hid (wr.ownsRow w.heap.size 3 1 (.slice xa m xc) m ((cs ++ List.replicate (m - cs.length) 0).map (Value.int .i64)) ∧ Below w.heap.size w wr)) (fun v _ => 128 - lenOfB v)
  case atStart => exact ⟨m2, ra, rc, by have := H2.out.1; omega, by have := H2.out.1; omega, rfl, hide ⟨by have h := H2.out.2.1; have e := H2.out.1; rw [show m2 - cs.length = 0 by omega, List.replicate_zero, List.append_nil]; rw [List.nil_append] at h; exact h, B1.out.trans H2.out.2.2⟩⟩
  case round =>
    obtain ⟨m, xa, xc, hm1, hm2, rfl, HI⟩ := hrel
    by_cases hlt : m < 128
    · have hltI : (m : Int) < 128 := by omega
      have HR := hide (HI.out.1.alloc (.cells #[.int .i64 0] 3))
      have B4 := hide (show Below w.heap.size w (wr.alloc (.cells #[.int .i64 0] 3)) from HI.out.2.trans (((Below.refl _ _).alloc (Nat.le_refl _) _).mono HI.out.2.size))
      have hws : w.heap.size ≤ wr.heap.size := HI.out.2.size
      go_wp2_with (first
        | (at_builtin; refine wpList_append_own_at _ rfl (.tmp 18) (.tmp 19) 29 rfl w.heap.size 3 i0 (.int .i64 0) 1 8 Tryz.underlying29 hi hz0 hz1 hz2 rfl (by decide) (.slice xa m xc) m _ rfl HR.out ⟨wr.heap.size, 0, none⟩ 1 1 [.int .i64 0] rfl rfl (cells_newI wr 0) (by intro y hy; simp at hy; rcases hy with rfl; rfl) (by unfold maxLen; omega) (by omega) (by simp; omega) ?_
           intro v4 w4 o4 g4 _ _
           obtain ⟨va, vc, rfl⟩ := own_shapeT o4
           have H4 := hide (And.intro o4 g4)
           clear o4 g4)
        | fail)
      go_roundw
      case rel =>
        refine ⟨m + 1, va, vc, by omega, by omega, rfl, hide ⟨?_, B4.out.grown H4.out.2 B4.out.size (fun r e => (HR.out.lt r e).1)⟩⟩
        have h := H4.out.1
        rw [show m + 1 - cs.length = (m - cs.length) + 1 by omega, List.replicate_succ', ← List.append_assoc, List.map_append]
        exact h
      case measure => simp [lenOfB]; omega
    · have hltI : ¬ ((m : Int) < 128) := by omega
      obtain rfl : m = 128 := by omega
      go_wp2
      go_ret
      exact ⟨_, rfl, by have h := HI.out.1; rw [HP.out]; exact h, HI.out.2⟩
end Go.Proofs.YtlimollpocagiaaGreatDoor

namespace Go.Proofs.YtlimollpocagiaaGreatDoor
set_option linter.unusedVariables false
set_option linter.unusedSimpArgs false
open Go.RowKit

section
variable {P : Program}
theorem part_one (w : World) {e : TypeId} {k : IntKind} (he : P.underlying e = some (.int k)) {xs : Array Value} {off : Nat} {v : Value} (hx : xs[off]? = some v) : (part e xs off).run P w = .ok v w := by
  simp [part, isAgg, run_underlying he, hx]
theorem eqItems_cons (w : World) {d : Nat} {e : TypeId} {c : Nat} {xs ys : Array Value} {i : Nat} {is : List Nat} {a b : Value} {r r' : Bool} (h1 : (part e xs (i * c)).run P w = .ok a w) (h2 : (part e ys (i * c)).run P w = .ok b w)
    (h3 : (Op.equalIn d e a b).run P w = .ok r w) (h4 : (Op.eqItems d e c xs ys is).run P w = .ok r' w) : (Op.eqItems d e c xs ys (i :: is)).run P w = .ok (r && r') w := by
  simp only [Op.eqItems, Sem.run_bind, h1, h2, h3, Result.andThen_ok]
  cases r
  · simp
  · simpa using h4
end

end Go.Proofs.YtlimollpocagiaaGreatDoor

namespace Go.Proofs.YtlimollpocagiaaGreatDoor
set_option linter.unusedVariables false
set_option linter.unusedSimpArgs false
open Go.RowKit

theorem cellsA_get (k : IntKind) (xs : List Int) (i : Nat) (h : i < xs.length) : ((xs.map (Value.int k)).toArray)[i]? = some (.int k (xs.getD i 0)) := by
  simp [List.getD, h]
theorem allA (n : Nat) (xs ys : List Int) (hx : xs.length = n) (hy : ys.length = n) : ((List.range n).all fun i => xs.getD i 0 == ys.getD i 0) = decide (xs = ys) := by
  rw [Bool.eq_iff_iff]
  simp only [List.all_eq_true, List.mem_range, beq_iff_eq, decide_eq_true_eq]
  constructor
  · intro h
    apply List.ext_getElem (by omega)
    intro i h1 h2
    have := h i (by omega)
    simpa [List.getD, h1, h2] using this
  · rintro rfl i _
    rfl
theorem guardA_W : Tryz.prog.eqGuardType Tryz.prog.depth 127 = false := by kernel_rfl
theorem cellsOfA_W : Tryz.prog.cellsOf 3 = 1 := by kernel_rfl
theorem eqItemsA_W (w : World) (d : Nat) (xs ys : List Int) : ∀ (is : List Nat), (∀ i ∈ is, i < xs.length ∧ i < ys.length) →
    (Op.eqItems (d + 1) 3 1 (xs.map (Value.int .i64)).toArray (ys.map (Value.int .i64)).toArray is).run Tryz.prog w = .ok (is.all fun i => xs.getD i 0 == ys.getD i 0) w
  | [], _ => by simp [Op.eqItems]
  | i :: is, h => by
    have hi := h i (by simp)
    exact eqItems_cons w (part_one w Tryz.underlying3 (by rw [Nat.mul_one]; exact cellsA_get .i64 xs i hi.1)) (part_one w Tryz.underlying3 (by rw [Nat.mul_one]; exact cellsA_get .i64 ys i hi.2)) (run_equalIn_int w d 3 .i64 .i64 _ _ Tryz.underlying3) (eqItemsA_W w d xs ys is (fun j hj => h j (by simp [hj])))
theorem eqArr_W (w : World) (xs ys : List Int) (hx : xs.length = 128) (hy : ys.length = 128) : (Op.equalIn 10000 127 (.agg (xs.map (Value.int .i64)).toArray) (.agg (ys.map (Value.int .i64)).toArray)).run Tryz.prog w = .ok (decide (xs = ys)) w := by
  obtain ⟨i0, hi, hz0, hz1, hz2⟩ := info_parts infoI64
  rw [run_equalIn_array w 9999 _ _ Tryz.underlying127 hi, cellsOfA_W, eqItemsA_W w 9998 xs ys (List.range 128) (by intro i hi; simp at hi; omega), allA 128 xs ys hx hy]
theorem zerosA (n : Nat) (k : IntKind) : ((List.replicate n (0 : Int)).map (Value.int k)).toArray = Array.replicate n (.int k 0) := by simp
theorem letBwZ : ∃ Z : Array Value, Z = ((List.replicate 128 (0 : Int)).map (Value.int .i64)).toArray ∧ ∀ (ρ : Operand → Value) (o : Oper) (w : World), o.op = .alloc 127 → (execOp ρ o).run Tryz.prog w = .ok (.value (.pointer (some ⟨w.heap.size, 0, none⟩))) (w.alloc (.cells Z 127)) :=
  ⟨_, rfl, fun ρ o w ho => by rw [show ((List.replicate 128 (0 : Int)).map (Value.int .i64)).toArray = zBw from zerosA 128 .i64]; simp [execOp, ho, allocBw, Result.andThen]⟩
theorem rd_arr {w : World} {m n : Nat} {k : IntKind} {t : TypeId} {ms : List Int} (h : Blk w m (ms.map (Value.int k)).toArray t) (hn : n = ms.length) (hl : ms.length ≤ 1048576) : Rd k w (.slice (some ⟨m, 0, none⟩) n n) ms := by
  subst hn
  refine ⟨some ⟨m, 0, none⟩, ms.length, rfl, by unfold maxLen; omega, fun _ => ⟨m, 0, rfl, h.lt, fun i hi => ?_⟩, Nat.le_refl _, by unfold maxLen; omega⟩
  rw [Nat.zero_add, h.cell i]
  exact cellsA_get k ms i hi
end Go.Proofs.YtlimollpocagiaaGreatDoor
