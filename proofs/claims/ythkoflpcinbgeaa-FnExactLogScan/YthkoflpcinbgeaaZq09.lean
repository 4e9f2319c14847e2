/- An operation as cells; the program's look at one: opFault. EncodeWords, the model's and the program's: both give encW. append to an owned row: where it moves, it moves to new memory. The model's EncodeRoot. -/
import Derived.Test.YthkoflpcinbgeaaZq07
import Derived.Test.YthkoflpcinbgeaaZq08
import Derived.Test.YthkoflpcinbgeaaZq02
import Derived.Test.YthkoflpcinbgeaaZq06
import Derived.Test.YthkoflpcinbgeaaZq01
import Derived.Test.YthkoflpcinbgeaaZq04
import Derived.OwnWalk
import Derived.ArgAppend
import Derived.Test.YthkoflpcinbgeaaZq05
namespace Go.Proofs.Ythkoflpcinbgeaa
set_option linter.unusedVariables false
set_option linter.unusedSimpArgs false
open Go.RowKit

/-- An operation as cells: five numbers, two names, the slice of its bytes. -/
def opC (K A B U G : Int) (p q : ByteArray) (v : Value) : Array Value := #[.int .i64 K, .int .i64 A, .int .i64 B, .int .i64 U, .int .i64 G, .string p, .string q, v]
theorem infoO8 : (Try.prog.info? 34).map (·.size) = some 8 := by kernel_rfl
/-- What may be laid down; n: how many bytes it has. -/
def rightO (K U G : Int) (p q : ByteArray) (n : Nat) : Bool := wi K 0 255 && wi U 0 65535 && wi G 0 65535 && wi p.size 0 512 && wi q.size 0 512 && wi n 0 4096

set_option maxRecDepth 100000 in
set_option maxHeartbeats 1000000 in
theorem opFault_any (K A B U G : Int) (p q : ByteArray) (a : Option Addr) (n c : Nat) (code : Int) (w : World) (hp : p.size ≤ maxLen) (hq : q.size ≤ maxLen) (hn : n ≤ maxLen) :
    Calls Try.prog 51 #[.agg (opC K A B U G p q (.slice a n c)), .int .i64 code] w fun e w' => ∃ ev, e = .returned ev ∧ FaultIs w' w.heap.size (rightO K U G p q n) ev code ∧ Below w.heap.size w w' := by
  have HP := hide (And.intro hp (And.intro hq hn))
  have kB := (Blk.new w (opC K A B U G p q (.slice a n c)) 34).alloc (.cells #[.int .i64 code, .nilIface] 57)
  have kC := Ck.fresh (w.alloc (.cells (opC K A B U G p q (.slice a n c)) 34)) code 57
  rw [World.size_alloc] at kC
  have hb0 : Below w.heap.size w ((w.alloc (.cells (opC K A B U G p q (.slice a n c)) 34)).alloc (.cells #[.int .i64 code, .nilIface] 57)) := ((Below.refl _ _).alloc (Nat.le_refl _) _).alloc (by simp) _
  have H0 := hide (show Kp w ((w.alloc (.cells (opC K A B U G p q (.slice a n c)) 34)).alloc (.cells #[.int .i64 code, .nilIface] 57)) (opC K A B U G p q (.slice a n c)) 34 code true from ⟨kB, kC, hb0⟩)
  have HF := hide (show rightO K U G p q n = (wi K 0 255 && wi U 0 65535 && wi G 0 65535 && wi p.size 0 512 && wi q.size 0 512 && wi n 0 4096) from rfl)
  clear hp hq hn kB kC hb0
  go_enter Try.func51, Try.ntmps51
  have c0 := (H0.out.blk.cell 0).trans (show (opC K A B U G p q (.slice a n c))[0]? = some (.int .i64 K) from rfl)
  go_wp2_with (go_at_call 56; fail)
  refine (within_any (w.heap.size + 1) (w.heap.size + 1 + 1) _ code K 0 255 _ _ H0.out.ck (by omega) H0.out.lo).mono ?_
  rintro e w1 ⟨rfl, hc1, ht1⟩
  rw [Bool.true_and] at hc1
  have H1 := hide (H0.out.tch hc1 ht1)
  clear hc1 ht1 H0 c0
  have c1 := (H1.out.blk.cell 3).trans (show (opC K A B U G p q (.slice a n c))[3]? = some (.int .i64 U) from rfl)
  go_wp2_with (go_at_call 56; fail)
  refine (within_any (w.heap.size + 1) (w.heap.size + 1 + 1) _ code U 0 65535 _ _ H1.out.ck (by omega) H1.out.lo).mono ?_
  rintro e w2 ⟨rfl, hc2, ht2⟩
  have H2 := hide (H1.out.tch hc2 ht2)
  clear hc2 ht2 H1 c1
  have c2 := (H2.out.blk.cell 4).trans (show (opC K A B U G p q (.slice a n c))[4]? = some (.int .i64 G) from rfl)
  go_wp2_with (go_at_call 56; fail)
  refine (within_any (w.heap.size + 1) (w.heap.size + 1 + 1) _ code G 0 65535 _ _ H2.out.ck (by omega) H2.out.lo).mono ?_
  rintro e w3 ⟨rfl, hc3, ht3⟩
  have H3 := hide (H2.out.tch hc3 ht3)
  clear hc3 ht3 H2 c2
  have c3 := (H3.out.blk.cell 5).trans (show (opC K A B U G p q (.slice a n c))[5]? = some (.string p) from rfl)
  go_wp2_with (go_at_call 56; fail)
  refine (within_any (w.heap.size + 1) (w.heap.size + 1 + 1) _ code (p.size : Int) 0 512 _ _ H3.out.ck (by omega) H3.out.lo).mono ?_
  rintro e w4 ⟨rfl, hc4, ht4⟩
  have H4 := hide (H3.out.tch hc4 ht4)
  clear hc4 ht4 H3 c3
  have c4 := (H4.out.blk.cell 6).trans (show (opC K A B U G p q (.slice a n c))[6]? = some (.string q) from rfl)
  go_wp2_with (go_at_call 56; fail)
  refine (within_any (w.heap.size + 1) (w.heap.size + 1 + 1) _ code (q.size : Int) 0 512 _ _ H4.out.ck (by omega) H4.out.lo).mono ?_
  rintro e w5 ⟨rfl, hc5, ht5⟩
  have H5 := hide (H4.out.tch hc5 ht5)
  clear hc5 ht5 H4 c4
  have c5 := (H5.out.blk.cell 7).trans (show (opC K A B U G p q (.slice a n c))[7]? = some (.slice a n c) from rfl)
  go_wp2_with (go_at_call 56; fail)
  refine (within_any (w.heap.size + 1) (w.heap.size + 1 + 1) _ code (n : Int) 0 4096 _ _ H5.out.ck (by omega) H5.out.lo).mono ?_
  rintro e w6 ⟨rfl, hc6, ht6⟩
  have H6 := hide (H5.out.tch hc6 ht6)
  clear hc6 ht6 H5 c5
  obtain ⟨ev, c6, hf6⟩ := H6.out.fault
  have HV := hide (show FaultIs w6 w.heap.size (rightO K U G p q n) ev code from by rw [HF.out]; exact hf6)
  clear hf6
  go_wp2
  go_ret
  exact ⟨ev, rfl, HV.out, H6.out.old⟩
end Go.Proofs.Ythkoflpcinbgeaa

namespace Go.Proofs.Ythkoflpcinbgeaa
open Go.RowKit

def okW (v : Int) : Bool := decide (0 ≤ v) && decide (v ≤ 4294967295)
def bytesW (ws : List Int) : List Int := ws.flatMap fun v => le 4 v.toNat
def goodW (ws : List Int) : Bool := decide (ws.length = 128) && ws.all okW
def encW (ws : List Int) : List Int := if goodW ws = true then bytesW ws else []
def codeW (ws : List Int) : Int := if goodW ws = true then 0 else 7

theorem bytesW_len (ws : List Int) : (bytesW ws).length = 4 * ws.length := by
  unfold bytesW
  induction ws with
  | nil => rfl
  | cons v ws ih => rw [List.flatMap_cons, List.length_append, ih, le_len, List.length_cons]; omega
theorem bytesW_take (ws : List Int) (k : Nat) (h : k < ws.length) : bytesW (ws.take (k + 1)) = bytesW (ws.take k) ++ le 4 (ws.getD k 0).toNat := by
  unfold bytesW
  rw [List.take_succ_eq_append_getElem h, List.flatMap_append]
  simp [List.getD, h]
theorem all_take (ws : List Int) (k : Nat) (h : k < ws.length) : (ws.take (k + 1)).all okW = ((ws.take k).all okW && okW (ws.getD k 0)) := by
  rw [List.take_succ_eq_append_getElem h, List.all_append]
  simp [List.getD, h]
theorem bad_of_get (ws : List Int) (k : Nat) (h : k < ws.length) (hb : okW (ws.getD k 0) = false) : goodW ws = false := by
  unfold goodW
  rw [Bool.and_eq_false_iff]
  right
  rw [List.all_eq_false]
  refine ⟨ws.getD k 0, ?_, by rw [hb]; simp⟩
  simp [List.getD, h]

end Go.Proofs.Ythkoflpcinbgeaa

namespace Go.Proofs.Ythkoflpcinbgeaa
open Go.RowKit

theorem append_fresh {P : Program} (w : World) {ops : Array Oper} {rest : List Oper} {o : Oper} {a : Act} {Q : Exit → Act → World → Prop}
    (hg : o.guard = none) (s x : Operand) (t : TypeId) (hop : o.op = Op.call { callee := Callee.builtin Builtin.append, args := #[s, x], argTypes := #[t, t] })
    (base : Nat) (e : TypeId) (i : TypeInfo) (z : Value) (size bytes : Nat) (h1 : P.underlying t = some (.slice e)) (h2 : P.info? e = some i) (h3 : i.zero = some z) (h4 : i.size = size) (h5 : i.bytes = bytes) (h6 : z.cells.size = size) (h7 : 0 < size)
    (v : Value) (n : Nat) (xs : List Value) (hs : a.eval s = v) (hown : w.ownsRow base e size v n xs)
    (ad : Addr) (m c : Nat) (news : List Value) (hx : a.eval x = .slice (some ad) m c) (hn : news.length = m * size) (hc : ∀ j u, news[j]? = some u → w.cell? (ad.add j) = some u) (h1c : ∀ u ∈ news, u.oneCell' = true)
    (hm : 0 < m) (b1 : n + m ≤ maxLen) (b2 : (n + m) * bytes ≤ 140737488355328) (b3 : base ≤ w.heap.size)
    (hK : ∀ v' w', w'.ownsRow base e size v' (n + m) (xs ++ news) → w.grownBy w' v.ownBlock → (∀ k, v'.ownBlock = some k → v.ownBlock = some k ∨ w.heap.size ≤ k) → wpList P ops Q rest (a.put o.dst v') w') :
    wpList P ops Q (o :: rest) a w := by
  have weak : ∀ w', w.grownBy w' none → ∀ r, w.grownBy w' r := fun w' h r => ⟨h.os, h.tape, h.output, h.size, fun k hk _ => h.block k hk (by simp)⟩
  rcases hown.2 with ⟨rfl, rfl⟩ | ⟨g, cap, cur, rfl, hb, hgr, hnc, hcm, hcs, htake⟩
  · have hx0 : xs = [] := List.eq_nil_of_length_eq_zero (by simpa using hown.1)
    subst hx0
    refine wpList_append_grows w hg s x t hop e i z size bytes h1 h2 h3 h4 h5 h6 h7 none 0 0 [] hs (fun _ => ⟨rfl, rfl⟩) (by simp) (fun b h => by cases h) ad m c news hx hn hc h1c (by omega) b1 b2 ?_
    intro v' w' r1 r2
    exact hK v' w' (own_mono r1 b3) (weak w' r2 _) (fun k hk => .inr (r1.lt k hk).1)
  · by_cases hroom : n + m ≤ cap
    · refine wpList_append_fits w hg s x t hop base e i size h1 h2 h4 g n cap xs hs hown ad m c news hx hn hc h1c hroom ?_
      intro w' r1 r2
      exact hK _ w' r1 r2 (fun k hk => .inl hk)
    · refine wpList_append_grows w hg s x t hop e i z size bytes h1 h2 h3 h4 h5 h6 h7 (some ⟨g, 0, none⟩) n cap xs hs (fun h => by cases h) hown.1 (fun b h j u hj => by cases h; exact hown.cells (g := g) rfl j u hj) ad m c news hx hn hc h1c (by omega) b1 b2 ?_
      intro v' w' r1 r2
      exact hK v' w' (own_mono r1 b3) (weak w' r2 _) (fun k hk => .inr (r1.lt k hk).1)
end Go.Proofs.Ythkoflpcinbgeaa

namespace Go.Proofs.Ythkoflpcinbgeaa
set_option linter.unusedVariables false
set_option linter.unusedSimpArgs false
open Go.RowKit

def bytesR (s : Int) (ds : List Int) (p q : Int) : List Int := le 8 s.toNat ++ bytesW (ds ++ [p, q])
def encR (s : Int) (ds : List Int) (p q : Int) : List Int := if rightR s ds p q = true then bytesR s ds p q else []
def codeR (s : Int) (ds : List Int) (p q : Int) : Int := if rightR s ds p q = true then 0 else 7
theorem bytesR_len (s : Int) (ds : List Int) (p q : Int) (hd : ds.length = 12) : (bytesR s ds p q).length = 64 := by
  unfold bytesR
  rw [List.length_append, le_len, bytesW_len]
  simp [hd]
theorem encR_len (s : Int) (ds : List Int) (p q : Int) (hd : ds.length = 12) : (encR s ds p q).length ≤ 64 := by
  unfold encR
  split
  · rw [bytesR_len s ds p q hd]; omega
  · simp
theorem right_bd {s : Int} {ds : List Int} {p q : Int} (hd : ds.length = 12) (h : rightR s ds p q = true) : (0 ≤ s ∧ s ≤ 262144) ∧ ∀ z ∈ ds ++ [p, q], 0 ≤ z ∧ z < 2048 := by
  unfold rightR at h
  rw [Bool.and_eq_true, Bool.and_eq_true] at h
  refine ⟨⟨by simpa using h.1.1, by simpa using h.1.2⟩, fun z hz => ?_⟩
  obtain ⟨i, hi, rfl⟩ := List.getElem_of_mem hz
  have h2 := h.2
  unfold allR at h2
  rw [List.all_eq_true] at h2
  have h3 := h2 i (by simp at hi ⊢; omega)
  unfold okAt at h3
  rw [Bool.and_eq_true] at h3
  have h4 := h3.1
  have e : (ds ++ [p, q]).getD i 0 = (ds ++ [p, q])[i] := by rw [List.getD, List.getElem?_eq_getElem hi, Option.getD_some]
  rw [e] at h4
  unfold ptrB at h4
  simp at h4
  omega

end Go.Proofs.Ythkoflpcinbgeaa
