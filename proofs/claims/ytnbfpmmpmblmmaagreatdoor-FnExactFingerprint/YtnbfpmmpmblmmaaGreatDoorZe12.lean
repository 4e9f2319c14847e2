/- EncodeWords, the model's and the program's: both give encW. append to an owned row: where it moves, it moves to new memory. The model's EncodeRoot. The model joins byte strings and fills them up: l02Join, l02Fill. The model's directories: l03ZeroBytes, l06Slots. -/
import Derived.Test.YtnbfpmmpmblmmaaGreatDoorZe06
import Derived.Test.YtnbfpmmpmblmmaaGreatDoorZe03
import Derived.Test.YtnbfpmmpmblmmaaGreatDoorZe01
import Derived.OwnWalk
import Derived.ArgAppend
import Derived.Test.YtnbfpmmpmblmmaaGreatDoorZe07
namespace Go.Proofs.YtnbfpmmpmblmmaaGreatDoor
open Go.RowKit

def bytesW (ws : List Int) : List Int := ws.flatMap fun v => le 4 v.toNat
theorem bytesW_len (ws : List Int) : (bytesW ws).length = 4 * ws.length := by
  unfold bytesW
  induction ws with
  | nil => rfl
  | cons v ws ih => rw [List.flatMap_cons, List.length_append, ih, le_len, List.length_cons]; omega
theorem bytesW_take (ws : List Int) (k : Nat) (h : k < ws.length) : bytesW (ws.take (k + 1)) = bytesW (ws.take k) ++ le 4 (ws.getD k 0).toNat := by
  unfold bytesW
  rw [List.take_succ_eq_append_getElem h, List.flatMap_append]
  simp [List.getD, h]
end Go.Proofs.YtnbfpmmpmblmmaaGreatDoor

namespace Go.Proofs.YtnbfpmmpmblmmaaGreatDoor
open Go.RowKit

theorem append_fresh {P : Program} (w : World) {ops : Array Oper} {rest : List Oper} {o : Oper} {a : Act} {Q : Exit → Act → World → Prop}
    (hg : o.guard = none) (s x : Operand) (t : TypeId) (hop : o.op = Op.call { callee := Callee.builtin Builtin.append, args := #[s, x], argTypes := #[t, t] })
    (base : Nat) (e : TypeId) (i : TypeInfo) (z : Value) (size bytes : Nat) (h1 : P.underlying t = some (.slice e)) (h2 : P.info? e = some i) (h3 : i.zero = some z) (h4 : i.size = size) (h5 : i.bytes = bytes) (h6 : z.cells.size = size) (h7 : 0 < size)
    (v : Value) (n : Nat) (xs : List Value) (hs : a.eval s = v) (hown : w.ownsRow base e size v n xs)
    (ad : Addr) (m c : Nat) (news : List Value) (hx : a.eval x = .slice (some ad) m c) (hn : news.length = m * size) (hc : ∀ j u, news[j]? = some u → w.cell? (ad.add j) = some u) (h1c : ∀ u ∈ news, u.oneCell' = true)
    (hm : 0 < m) (b1 : n + m ≤ maxLen) (b2 : (n + m) * bytes ≤ 140737488355328) (b3 : base ≤ w.heap.size)
    (hK : ∀ v' w', w'.ownsRow base e size v' (n + m) (xs ++ news) → w.grownBy w' v.ownBlock → (∀ k, v'.ownBlock = some k → v.ownBlock = some k ∨ w.heap.size ≤ k) → wpList P ops Q rest (a.put o.dst v') w') :
    wpList P ops Q (o :: rest) a w := by
  have weak : ∀ w', w.grownBy w' none → ∀ r, w.grownBy w' r := fun w' h r => ⟨h.os, h.tape, h.output, h.size, fun k hk _ => h.block k hk (by simp)⟩
  rcases hown.2 with ⟨rfl, rfl⟩ | ⟨g, cap, cur, rfl, hb, hgr, hnc, hcm, hcs, htake⟩
  · have hx0 : xs = [] := List.eq_nil_of_length_eq_zero (by simpa using hown.1)
    subst hx0
    refine wpList_append_grows w hg s x t hop e i z size bytes h1 h2 h3 h4 h5 h6 h7 none 0 0 [] hs (fun _ => ⟨rfl, rfl⟩) (by simp) (fun b h => by cases h) ad m c news hx hn hc h1c (by omega) b1 b2 ?_
    intro v' w' r1 r2
    exact hK v' w' (own_mono r1 b3) (weak w' r2 _) (fun k hk => .inr (r1.lt k hk).1)
  · by_cases hroom : n + m ≤ cap
    · refine wpList_append_fits w hg s x t hop base e i size h1 h2 h4 g n cap xs hs hown ad m c news hx hn hc h1c hroom ?_
      intro w' r1 r2
      exact hK _ w' r1 r2 (fun k hk => .inl hk)
    · refine wpList_append_grows w hg s x t hop e i z size bytes h1 h2 h3 h4 h5 h6 h7 (some ⟨g, 0, none⟩) n cap xs hs (fun h => by cases h) hown.1 (fun b h j u hj => by cases h; exact hown.cells (g := g) rfl j u hj) ad m c news hx hn hc h1c (by omega) b1 b2 ?_
      intro v' w' r1 r2
      exact hK v' w' (own_mono r1 b3) (weak w' r2 _) (fun k hk => .inr (r1.lt k hk).1)
end Go.Proofs.YtnbfpmmpmblmmaaGreatDoor

namespace Go.Proofs.YtnbfpmmpmblmmaaGreatDoor
set_option linter.unusedVariables false
set_option linter.unusedSimpArgs false
open Go.RowKit

def bytesR (s : Int) (ds : List Int) (p q : Int) : List Int := le 8 s.toNat ++ bytesW (ds ++ [p, q])
theorem bytesR_len (s : Int) (ds : List Int) (p q : Int) (hd : ds.length = 12) : (bytesR s ds p q).length = 64 := by
  unfold bytesR
  rw [List.length_append, le_len, bytesW_len]
  simp [hd]
set_option maxRecDepth 100000 in
set_option maxHeartbeats 1000000 in
theorem rootBytes_any (s : Int) (ds : List Int) (p q : Int) (w : World) (hd : ds.length = 12) (hs : 0 ≤ s ∧ s ≤ 262144) (hp : ∀ z ∈ ds ++ [p, q], 0 ≤ z ∧ z < 2048) :
    Calls Tryz.prog 70 #[.agg (cellsI (rootI s ds p q))] w fun e w' => ∃ v', e = .returned v' ∧ w'.ownsRow w.heap.size 5 1 v' 64 ((bytesR s ds p q).map (Value.int .u8)) ∧ Below w.heap.size w w' := by
  obtain ⟨i0, hi, hz0, hz1', hz2⟩ := info_parts infoU8
  have HD := hide hd
  have HZ := hide (show (cellsI (rootI s ds p q)).size = 15 from by rw [cellsI_size]; exact rootI_len s ds p q HD.out)
  have HL := hide (show (ds ++ [p, q]).length = 14 from by simp [HD.out])
  obtain ⟨n, hn⟩ := Int.eq_ofNat_of_zero_le hs.1
  have hn2 : n ≤ 262144 := by omega
  have HN := hide hn
  have HP := hide hp
  have c0 : (w.alloc (.cells (cellsI (rootI s ds p q)) 81)).cell? ⟨w.heap.size, 0, none⟩ = some (.int .i64 (n : Int)) := by
    rw [(Blk.new w _ _).cell 0, ← hn]; rfl
  have hb0 : Below w.heap.size w (w.alloc (.cells (cellsI (rootI s ds p q)) 81)) := (Below.refl _ _).alloc (Nat.le_refl _) _
  clear hd hs hn hp
  go_enter Tryz.func70, Tryz.ntmps70
  go_wp2_with fail
  refine (put_pos n 8 _ (by omega) (by omega) (by omega)).mono ?_
  rintro e w1 ⟨g1, cp1, rfl, o1, b1⟩
  rw [World.size_alloc] at o1
  have hs1 : w.heap.size + 1 ≤ w1.heap.size := by have := b1.size; simpa using this
  have K1 := hide (And.intro o1 (And.intro (hb0.trans (b1.mono hb0.size)) ((Blk.new w (cellsI (rootI s ds p q)) 81).below b1 (by simp))))
  clear o1 b1 hb0 c0
  go_wp2_with (first | (refine wpList_load_row rfl 81 _ rfl w.heap.size rfl 81 (cellsI (rootI s ds p q)) (0, 0) _ K1.out.2.2 Tryz.underlying81 rfl (by rw [HZ.out]; exact info15) ?_) | (go_at_call 89; fail))
  refine (pointers_any s ds p q _ HD.out).mono ?_
  rintro e w2 ⟨v2, rfl, o2, b2⟩
  obtain ⟨bd, off, cap, rfl, hbw, _, _, hcell⟩ := (Rd.own o2).partsC (by rw [HL.out]; omega)
  rw [HL.out] at hcell ⊢
  have HB := hide (K1.out.2.1.trans (b2.mono K1.out.2.1.size))
  have hbd1 : w.heap.size + 1 ≤ bd := by have := (o2.lt bd rfl).1; omega
  have HO := hide (own_below K1.out.1 b2)
  have HG := hide (show ∀ r, (Value.slice (some ⟨g1, 0, none⟩) 8 cp1).ownBlock = some r → r ≠ bd from fun r hr => by have h1 := (K1.out.1.lt r hr).2; have h2 := (o2.lt bd rfl).1; omega)
  have HQ := hide (show bytesR s ds p q = le 8 n ++ bytesW (ds ++ [p, q]) from by unfold bytesR; rw [HN.out]; rfl)
  generalize ds ++ [p, q] = pts at hcell HP HL HQ
  clear o2 b2 K1
  go_wp2
  go_loopw [3, 12] (fun o i wr => ∃ k : Nat, k ≤ 14 ∧ i = .int .i64 k ∧ bd < wr.heap.size ∧ (∀ r, o.ownBlock = some r → r ≠ bd) ∧ (∀ j, j < 14 → wr.cell? ⟨bd, off + j, none⟩ = some (.int .i64 (pts.getD j 0))) ∧ wr.ownsRow (w.heap.size + 1) 5 1 o (8 + 4 * k) ((le 8 n ++ bytesW (pts.take k)).map (Value.int .u8)) ∧ Below w.heap.size w wr) (fun _ i _ => 14 - (intOf i).toNat)
  case atStart => exact ⟨0, by omega, rfl, hbw, HG.out, hcell, by simpa [bytesW] using HO.out, HB.out⟩
  case round =>
    clear hcell hbw HO HB HG
    obtain ⟨k, hk, rfl, hbw, hne, hcell, hown, hb⟩ := hrel
    have hsz := hb.size
    by_cases hlt : k < 14
    · have hkl : k < pts.length := by rw [HL.out]; exact hlt
      have c1 := hcell k hlt
      have hz1 := HP.out (pts.getD k 0) (by simp [List.getD, hkl])
      have HT := hide (bytesW_take pts k hkl)
      have HC := hide (And.intro hcell (And.intro hne (And.intro hown hb)))
      clear hcell hne hown hb hkl
      generalize pts.getD k 0 = z at c1 HT hz1
      obtain ⟨y, rfl⟩ := Int.eq_ofNat_of_zero_le hz1.1
      obtain ⟨_, hy2⟩ := hz1
      have hy : y < 2048 := by omega
      clear hy2
      rw [Int.toNat_natCast] at HT
      go_wp2_with fail
      refine (put_pos y 4 _ (by omega) (by omega) (by omega)).mono ?_
      rintro e w3 ⟨g3, cp3, rfl, o3, b3⟩
      have hs3 := b3.size
      have hop := own_below HC.out.2.2.1 b3
      clear c1
      go_wp2_with (at_builtin; refine append_fresh _ rfl (.tmp 16) (.tmp 18) 48 rfl (w.heap.size + 1) 5 i0 (.int .u8 0) 1 1 Tryz.underlying48 hi hz0 hz1' hz2 rfl (by decide) _ _ _ rfl hop ⟨g3, 0, none⟩ 4 cp3 ((le 4 y).map (Value.int .u8)) rfl (by simp [le_len]) (o3.cells rfl) (ints_oneCell _ _) (by omega) (by unfold maxLen; omega) (by omega) (by omega) ?_; intro v4 w4 o4 g4 f4)
      have HW := hide (show bd < w4.heap.size ∧ (∀ r, v4.ownBlock = some r → r ≠ bd) ∧ (∀ j, j < 14 → w4.cell? ⟨bd, off + j, none⟩ = some (.int .i64 (pts.getD j 0))) ∧ w4.ownsRow (w.heap.size + 1) 5 1 v4 (8 + 4 * (k + 1)) ((le 8 n ++ bytesW (pts.take (k + 1))).map (Value.int .u8)) ∧ Below w.heap.size w w4 from by
        have hs4 := g4.size
        refine ⟨by omega, ?_, ?_, ?_, ?_⟩
        · intro r hr
          rcases f4 r hr with h | h
          · exact HC.out.2.1 r h
          · omega
        · intro j hj
          have h3 := (b3.cell (p := ⟨bd, off + j, none⟩) hbw).trans (HC.out.1 j hj)
          exact g4.cell h3 (fun e => HC.out.2.1 bd e.symm rfl)
        · rw [HT.out, ← List.append_assoc, List.map_append, show 8 + 4 * (k + 1) = 8 + 4 * k + 4 from by omega]
          exact o4
        · exact (HC.out.2.2.2.trans (b3.mono hsz)).grown g4 (by omega) (fun r h => by have := (hop.lt r h).1; omega))
      clear o3 b3 hop o4 g4 f4
      go_roundw
      case rel => exact ⟨k + 1, by omega, by go_num, HW.out.1, HW.out.2.1, HW.out.2.2.1, HW.out.2.2.2.1, HW.out.2.2.2.2⟩
      case measure => simp [intOf]; omega
    · have e14 : k = 14 := by omega
      subst e14
      have HC := hide (And.intro hown hb)
      clear hcell hne hown hb
      go_wp2
      go_ret
      refine ⟨_, rfl, ?_, HC.out.2⟩
      have ho := HC.out.1
      rw [List.take_of_length_le (by rw [HL.out]; omega), ← HQ.out] at ho
      exact own_mono ho (by omega)

end Go.Proofs.YtnbfpmmpmblmmaaGreatDoor

namespace Go.Proofs.YtnbfpmmpmblmmaaGreatDoor
set_option linter.unusedVariables false
set_option linter.unusedSimpArgs false
open Go.RowKit

/-- Slices that read as byte strings, one by one. -/
def AllRd (w : World) : List Value → List (List Int) → Prop
  | [], [] => True
  | v :: vs, b :: bs => Rd .u8 w v b ∧ AllRd w vs bs
  | _, _ => False
theorem AllRd.below {w w' : World} (hb : Below w.heap.size w w') : ∀ {vs : List Value} {bs : List (List Int)}, AllRd w vs bs → AllRd w' vs bs
  | [], [], _ => trivial
  | _ :: _, _ :: _, h => ⟨h.1.below hb, AllRd.below hb h.2⟩
  | [], _ :: _, h => h.elim
  | _ :: _, [], h => h.elim
theorem AllRd.snoc {w : World} {v : Value} {b : List Int} (hv : Rd .u8 w v b) : ∀ {vs : List Value} {bs : List (List Int)}, AllRd w vs bs → AllRd w (vs ++ [v]) (bs ++ [b])
  | [], [], _ => ⟨hv, trivial⟩
  | _ :: _, _ :: _, h => ⟨h.1, AllRd.snoc hv h.2⟩
  | [], _ :: _, h => h.elim
  | _ :: _, [], h => h.elim
theorem AllRd.next {w w' : World} {base : Nat} {e : TypeId} {n : Nat} {v : Value} {b : List Int} {vs : List Value} {bs : List (List Int)} (h : AllRd w vs bs) (ho : w'.ownsRow base e 1 v n (b.map (Value.int .u8))) (hb : Below w.heap.size w w') : AllRd w' (vs ++ [v]) (bs ++ [b]) :=
  (h.below hb).snoc (Rd.own ho)
theorem AllRd.len {w : World} : ∀ {vs : List Value} {bs : List (List Int)}, AllRd w vs bs → vs.length = bs.length
  | [], [], _ => rfl
  | _ :: _, _ :: _, h => by simp [AllRd.len h.2]
  | [], _ :: _, h => h.elim
  | _ :: _, [], h => h.elim
theorem AllRd.at {w : World} : ∀ {vs : List Value} {bs : List (List Int)} (k : Nat), AllRd w vs bs → k < bs.length → ∃ v, vs[k]? = some v ∧ Rd .u8 w v (bs.getD k [])
  | v :: vs, b :: bs, 0, h, _ => ⟨v, rfl, h.1⟩
  | v :: vs, b :: bs, k + 1, h, hk => by
    obtain ⟨u, h1, h2⟩ := AllRd.at k h.2 (by simpa using hk)
    exact ⟨u, by simpa using h1, by simpa using h2⟩
  | [], [], k, _, hk => by simp at hk
  | [], _ :: _, _, h, _ => h.elim
  | _ :: _, [], _, h, _ => h.elim
theorem flatten_take {α : Type} (bs : List (List α)) (k : Nat) (h : k < bs.length) : (bs.take (k + 1)).flatten = (bs.take k).flatten ++ bs.getD k [] := by
  rw [List.take_succ_eq_append_getElem h, List.flatten_append]
  simp [List.getD, h]
theorem take_flat_len {α : Type} (bs : List (List α)) (k : Nat) : (bs.take k).flatten.length ≤ bs.flatten.length := by
  conv => rhs; rw [← List.take_append_drop k bs, List.flatten_append, List.length_append]
  omega

set_option maxRecDepth 100000 in
set_option maxHeartbeats 1000000 in
theorem join_any (g n c : Nat) (vs : List Value) (bs : List (List Int)) (w : World) (hcell : ∀ j v, vs[j]? = some v → w.cell? ⟨g, j, none⟩ = some v) (hall : AllRd w vs bs) (hn : bs.length = n) (hn2 : n ≤ 1000) (hpos : ∀ b ∈ bs, 0 < b.length) (htot : bs.flatten.length ≤ 100000) (hg : g < w.heap.size) :
    Calls Tryz.prog 68 #[.slice (some ⟨g, 0, none⟩) n c] w fun e w' => ∃ v', e = .returned v' ∧ w'.ownsRow w.heap.size 5 1 v' bs.flatten.length (bs.flatten.map (Value.int .u8)) ∧ Below w.heap.size w w' := by
  obtain ⟨i0, hi, hz0, hz1', hz2⟩ := info_parts infoU8
  have HC := hide (And.intro hcell (And.intro hall (And.intro hpos (And.intro hn htot))))
  have H0 := hide (own_empty w 5)
  have hb0 := hide (show Below w.heap.size w (w.alloc (.cells #[] 5)) from (Below.refl _ _).alloc (Nat.le_refl _) _)
  clear hcell hall hpos hn htot
  go_enter Tryz.func68, Tryz.ntmps68
  go_wp2
  go_loopw [3, 9] (fun o i wr => ∃ k : Nat, k ≤ n ∧ i = .int .i64 k ∧ wr.ownsRow w.heap.size 5 1 o (bs.take k).flatten.length ((bs.take k).flatten.map (Value.int .u8)) ∧ Below w.heap.size w wr) (fun _ i _ => n - (intOf i).toNat)
  case atStart => exact ⟨0, by omega, rfl, by simpa using H0.out, hb0.out⟩
  case round =>
    clear H0 hb0
    obtain ⟨k, hk, rfl, hown, hb⟩ := hrel
    have hsz := hb.size
    by_cases hlt : k < n
    · obtain ⟨v, hv, hr⟩ := HC.out.2.1.at k (by rw [HC.out.2.2.2.1]; exact hlt)
      have hbk : 0 < (bs.getD k []).length := HC.out.2.2.1 _ (by
        have := HC.out.2.2.2.1
        have hk2 : k < bs.length := by omega
        simp [List.getD, hk2])
      have HT := hide (flatten_take bs k (by rw [HC.out.2.2.2.1]; exact hlt))
      have hle : (bs.take k).flatten.length + (bs.getD k []).length ≤ 100000 := by
        have h1 := take_flat_len bs (k + 1)
        rw [HT.out, List.length_append] at h1
        have := HC.out.2.2.2.2
        omega
      have c1 : wr.cell? ⟨g, k, none⟩ = some v := (hb.cell (p := ⟨g, k, none⟩) hg).trans (HC.out.1 k v hv)
      generalize bs.getD k [] = z at hr HT hbk hle
      obtain ⟨bd, off, cp, rfl, hbw, _, _, hcell3⟩ := (hr.below hb).partsC hbk
      have HX := hide (show ∀ (j : Nat) (u : Value), (z.map (Value.int .u8))[j]? = some u → wr.cell? ((⟨bd, off, none⟩ : Addr).add j) = some u from fun j u hj => by
        have hjl : j < z.length := by
          rcases Nat.lt_or_ge j z.length with h | h
          · exact h
          · rw [List.getElem?_eq_none (by simpa using h)] at hj; cases hj
        have ea : (⟨bd, off, none⟩ : Addr).add j = ⟨bd, off + j, none⟩ := by unfold Addr.add; split <;> simp_all
        rw [ea, hcell3 j hjl]
        rw [List.getElem?_map, List.getElem?_eq_getElem hjl] at hj
        simp at hj
        rw [← hj]
        simp [List.getD, hjl])
      have HO := hide (And.intro hown hb)
      clear hcell3 hr hown hb hv
      go_wp2_with (at_builtin; refine append_fresh _ rfl (.tmp 13) (.tmp 14) 48 rfl w.heap.size 5 i0 (.int .u8 0) 1 1 Tryz.underlying48 hi hz0 hz1' hz2 rfl (by decide) _ _ _ rfl HO.out.1 ⟨bd, off, none⟩ z.length cp (z.map (Value.int .u8)) rfl (by simp) HX.out (ints_oneCell _ _) hbk (by unfold maxLen; omega) (by omega) (by omega) ?_; intro v4 w4 o4 g4 f4)
      have HW := hide (show w4.ownsRow w.heap.size 5 1 v4 (bs.take (k + 1)).flatten.length ((bs.take (k + 1)).flatten.map (Value.int .u8)) ∧ Below w.heap.size w w4 from by
        refine ⟨?_, HO.out.2.grown g4 (by omega) (fun r h => (HO.out.1.lt r h).1)⟩
        rw [HT.out, List.map_append, List.length_append]
        exact o4)
      clear o4 g4 f4
      go_roundw
      case rel => exact ⟨k + 1, by omega, by go_num, HW.out.1, HW.out.2⟩
      case measure => simp [intOf]; omega
    · have HO := hide (And.intro hown hb)
      have e : k = n := by omega
      clear hown hb
      go_wp2
      go_ret
      have h2 := HO.out
      rw [List.take_of_length_le (by rw [HC.out.2.2.2.1]; omega)] at h2
      exact ⟨_, rfl, h2.1, h2.2⟩

set_option maxRecDepth 100000 in
set_option maxHeartbeats 1000000 in
theorem fill_any (v : Value) (zs : List Int) (n : Nat) (w : World) (h : Rd .u8 w v zs) (h0 : 0 < zs.length) (h1 : zs.length ≤ n) (h2 : n ≤ 100000) :
    Calls Tryz.prog 71 #[v, .int .i64 n] w fun e w' => ∃ v', e = .returned v' ∧ w'.ownsRow w.heap.size 5 1 v' n ((zs ++ List.replicate (n - zs.length) 0).map (Value.int .u8)) ∧ Below w.heap.size w w' := by
  obtain ⟨i0, hi, hz0, hz1', hz2⟩ := info_parts infoU8
  obtain ⟨bd, off, cp, rfl, hbw, _, _, hcell3⟩ := h.partsC h0
  have HB0 := hide (show Below w.heap.size w (w.alloc (.cells #[] 5)) from (Below.refl _ _).alloc (Nat.le_refl _) _)
  have HX := hide (show ∀ (j : Nat) (u : Value), (zs.map (Value.int .u8))[j]? = some u → (w.alloc (.cells #[] 5)).cell? ((⟨bd, off, none⟩ : Addr).add j) = some u from fun j u hj => by
    have hjl : j < zs.length := by
      rcases Nat.lt_or_ge j zs.length with h | h
      · exact h
      · rw [List.getElem?_eq_none (by simpa using h)] at hj; cases hj
    have ea : (⟨bd, off, none⟩ : Addr).add j = ⟨bd, off + j, none⟩ := by unfold Addr.add; split <;> simp_all
    rw [ea, HB0.out.cell (p := ⟨bd, off + j, none⟩) hbw, hcell3 j hjl]
    rw [List.getElem?_map, List.getElem?_eq_getElem hjl] at hj
    simp at hj
    rw [← hj]
    simp [List.getD, hjl])
  have H0 := hide (own_empty w 5)
  clear h hcell3
  go_enter Tryz.func71, Tryz.ntmps71
  go_wp2_with (at_builtin; refine append_fresh _ rfl (.tmp 6) (.tmp 7) 48 rfl w.heap.size 5 i0 (.int .u8 0) 1 1 Tryz.underlying48 hi hz0 hz1' hz2 rfl (by decide) _ _ _ rfl H0.out ⟨bd, off, none⟩ zs.length cp (zs.map (Value.int .u8)) rfl (by simp) HX.out (ints_oneCell _ _) h0 (by unfold maxLen; omega) (by omega) (by simp) ?_; intro v1 w1 o1 g1 f1)
  have H1 := hide (show w1.ownsRow w.heap.size 5 1 v1 zs.length (zs.map (Value.int .u8)) ∧ Below w.heap.size w w1 from ⟨by simpa using o1, HB0.out.grown g1 (by simp) (fun r h => (H0.out.lt r h).1)⟩)
  clear o1 g1 f1
  go_loopw [5] (fun o wr => ∃ j : Nat, zs.length + j ≤ n ∧ wr.ownsRow w.heap.size 5 1 o (zs.length + j) ((zs ++ List.replicate j 0).map (Value.int .u8)) ∧ Below w.heap.size w wr) (fun o _ => n - (match o with | .slice _ l _ => l | _ => 0))
  case atStart => exact ⟨0, by omega, by simpa using H1.out.1, H1.out.2⟩
  case round =>
    clear H1
    obtain ⟨j, hj, hown, hb⟩ := hrel
    have hsz := hb.size
    rcases hown.2 with ⟨rfl, hn0⟩ | ⟨g, cap, cur, rfl, _⟩
    · omega
    · by_cases hlt : zs.length + j < n
      · have HO := hide (And.intro hown hb)
        clear hown hb
        go_wp2_with (at_builtin; refine append_fresh _ rfl (.tmp 13) (.tmp 14) 48 rfl w.heap.size 5 i0 (.int .u8 0) 1 1 Tryz.underlying48 hi hz0 hz1' hz2 rfl (by decide) _ _ _ rfl (HO.out.1.alloc _) ⟨wr.heap.size, 0, none⟩ 1 1 [.int .u8 0] rfl rfl (cell_one_new _ _ _) (one_u8 _) (by omega) (by unfold maxLen; omega) (by omega) (by simp; omega) ?_; intro v4 w4 o4 g4 f4)
        have HW := hide (show w4.ownsRow w.heap.size 5 1 v4 (zs.length + (j + 1)) ((zs ++ List.replicate (j + 1) 0).map (Value.int .u8)) ∧ Below w.heap.size w w4 from by
          refine ⟨?_, (HO.out.2.alloc hsz _).grown g4 (by simp; omega) (fun r h => (HO.out.1.lt r h).1)⟩
          rw [List.replicate_succ', ← List.append_assoc, List.map_append]
          exact o4)
        have hlen : ∃ a c, v4 = .slice a (zs.length + (j + 1)) c := by
          rcases HW.out.1.2 with ⟨rfl, hn0⟩ | ⟨g, cap, cur, rfl, _⟩
          · omega
          · exact ⟨_, _, rfl⟩
        obtain ⟨a4, c4, rfl⟩ := hlen
        clear o4 g4 f4
        go_roundw
        case rel => exact ⟨j + 1, by omega, HW.out.1, HW.out.2⟩
        case measure => show n - (zs.length + (j + 1)) < n - (zs.length + j); omega
      · have HO := hide (And.intro hown hb)
        clear hown hb
        go_wp2
        go_ret
        have h3 := HO.out
        have e : j = n - zs.length := by omega
        rw [show zs.length + j = n by omega, e] at h3
        exact ⟨_, rfl, by rw [show zs.length + j = n by omega]; exact h3.1, h3.2⟩
end Go.Proofs.YtnbfpmmpmblmmaaGreatDoor

namespace Go.Proofs.YtnbfpmmpmblmmaaGreatDoor
set_option linter.unusedVariables false
set_option linter.unusedSimpArgs false
open Go.RowKit

def allZ (ts : List Int) : Bool := ts.all fun z => decide (z = 0)
theorem allZ_snoc (ts : List Int) (k : Nat) (hk : k < ts.length) : allZ (ts.take (k + 1)) = (allZ (ts.take k) && decide (ts.getD k 0 = 0)) := by
  unfold allZ
  rw [List.take_succ_eq_append_getElem hk, List.all_append]
  simp [List.getD, hk]
theorem allZ_no (ts : List Int) (k : Nat) (hk : k < ts.length) (h : ts.getD k 0 ≠ 0) : allZ ts = false := by
  cases hz : allZ ts with
  | false => rfl
  | true =>
    unfold allZ at hz
    rw [List.all_eq_true] at hz
    exact absurd (of_decide_eq_true (hz (ts.getD k 0) (by simp [List.getD, hk]))) h
set_option maxRecDepth 100000 in
theorem zeroBytes_any (v : Value) (ts : List Int) (w : World) (h : Rd .u8 w v ts) :
    Calls Tryz.prog 66 #[v] w fun e w' => e = .returned (.bool (allZ ts)) ∧ w' = w := by
  have hm := h.len
  unfold maxLen at hm
  rcases h.parts with ⟨a, cap, rfl, hlow⟩ | ⟨b, off, cap, rfl, hbw, hcell⟩
  all_goals
    clear h
    go_enter Tryz.func66, Tryz.ntmps66
    go_wp2
    go_loop [7] (fun i => ∃ k : Nat, k ≤ ts.length ∧ i = .int .i64 k ∧ allZ (ts.take k) = true) (fun i => ts.length - (intOf i).toNat)
    case atStart => exact ⟨0, Nat.zero_le _, rfl, rfl⟩
    case round =>
      obtain ⟨k, hk, rfl, he⟩ := hrel
      have HE := hide he
      clear he
      by_cases hlt : k < ts.length
      · first
        | omega
        | (have c1 := hcell k hlt
           have HN := hide (allZ_no ts k hlt)
           have HS := hide (allZ_snoc ts k hlt)
           clear hcell
           generalize ts.getD k 0 = z at c1 HN HS
           by_cases hz : z = 0
           · subst hz
             have HS2 := hide (show allZ (ts.take (k + 1)) = true from by rw [HS.out, HE.out]; rfl)
             go_wp2
             go_round
             case rel => exact ⟨k + 1, by omega, by go_num, HS2.out⟩
             case measure => simp [intOf]; omega
           · have hb : (z != 0) = true := by simpa using hz
             have HF := hide (HN.out hz)
             go_wp2
             go_ret
             exact ⟨ret_bool (by rw [HF.out]), rfl⟩)
      · have HF := hide (show allZ ts = true from by have h := HE.out; rw [List.take_of_length_le (by omega)] at h; exact h)
        go_wp2
        go_ret
        exact ⟨ret_bool (by rw [HF.out]), rfl⟩

/-- Slot k of a directory's bytes, as the model cuts it. -/
def slotV (b off cap k : Nat) : Value := .slice (some ⟨b, off + k * 32, none⟩) 32 (cap - k * 32)
theorem own_empty1 (w : World) (e : TypeId) : (w.alloc (.cells #[] e)).ownsRow w.heap.size e 1 (.slice (some ⟨w.heap.size, 0, none⟩) 0 0) 0 [] := own_empty w e
theorem infoSl : (Tryz.prog.info? 48).map (fun i => (i.zero, i.size, i.bytes)) = some (some (.slice none 0 0), 1, 24) := by kernel_rfl
theorem cell_new1 (w : World) (v : Value) (t : TypeId) : ∀ j u, ([v] : List Value)[j]? = some u → (w.alloc (.cells #[v] t)).cell? ((⟨w.heap.size, 0, none⟩ : Addr).add j) = some u := by
  intro j u hj
  rw [Addr.add_mid]
  match j, hj with
  | 0, hj => obtain rfl := Option.some.inj hj; exact cell_of_row _ _ 0 #[v] t (0, 0) (heap_alloc_new w _)
set_option maxRecDepth 100000 in
set_option maxHeartbeats 1000000 in
theorem slots_any (b off cap : Nat) (zs : List Int) (w : World) (hc : zs.length ≤ cap) (hcm : cap ≤ maxLen) (hl : zs.length ≤ 262144) (hz : zs.length % 32 = 0) (a : Option Addr) (ha : 0 < zs.length → a = some ⟨b, off, none⟩) :
    Calls Tryz.prog 65 #[.slice a zs.length cap] w fun e w' => ∃ v', e = .returned v' ∧ w'.ownsRow w.heap.size 48 1 v' (zs.length / 32) ((List.range (zs.length / 32)).map (slotV b off cap)) ∧ Below w.heap.size w w' := by
  obtain ⟨i0, hi, hz0, hz1, hz2⟩ := info_parts infoSl
  have H0 := hide (own_empty1 w 48)
  have hb0 := hide (show Below w.heap.size w (w.alloc (.cells #[] 48)) from (Below.refl _ _).alloc (Nat.le_refl _) _)
  unfold maxLen at hcm
  obtain ⟨N, hN⟩ : ∃ N, N = zs.length / 32 := ⟨_, rfl⟩
  have hNL : zs.length = N * 32 := by omega
  rw [← hN]
  clear hN
  go_enter Tryz.func65, Tryz.ntmps65
  go_wp2
  go_loopw [3, 4] (fun o i wr => ∃ k : Nat, k ≤ N ∧ i = .int .i64 ((k * 32 : Nat) : Int) ∧ wr.ownsRow w.heap.size 48 1 o k ((List.range k).map (slotV b off cap)) ∧ Below w.heap.size w wr) (fun _ i _ => zs.length + 32 - (intOf i).toNat)
  case atStart => exact ⟨0, by omega, rfl, by simpa using H0.out, hb0.out⟩
  case round =>
    clear H0 hb0
    obtain ⟨k, hk, rfl, hown, hb1⟩ := hrel
    have HO := hide hown
    have HB := hide hb1
    have hBs := hb1.size
    clear hown hb1
    by_cases hlt : k < N
    · obtain rfl := ha (by omega)
      have hl1 : ((k * 32 : Nat) : Int) + 32 ≤ (cap : Int) := by omega
      have HR := hide (show (List.range (k + 1)).map (slotV b off cap) = (List.range k).map (slotV b off cap) ++ [slotV b off cap k] from by rw [List.range_succ, List.map_append]; rfl)
      go_wp2_with (at_builtin; refine append_fresh _ rfl _ _ 146 rfl w.heap.size 48 i0 (.slice none 0 0) 1 24 Tryz.underlying146 hi hz0 hz1 hz2 rfl (by decide) _ _ _ rfl (HO.out.alloc _) ⟨wr.heap.size, 0, none⟩ 1 1 [slotV b off cap k] rfl rfl (cell_new1 wr _ _) (by simp [slotV, Value.oneCell']) (by omega) (by unfold maxLen; omega) (by omega) (by simp; omega) ?_; intro v7 w7 o7 g7 f7; have O7 := hide o7; have G7 := hide g7; clear o7 g7 f7)
      have HW := hide (show w7.ownsRow w.heap.size 48 1 v7 (k + 1) ((List.range (k + 1)).map (slotV b off cap)) ∧ Below w.heap.size w w7 from by
        refine ⟨by rw [HR.out]; exact O7.out, (HB.out.alloc hBs _).grown G7.out (by simp; omega) (fun r h => (HO.out.lt r h).1)⟩)
      exact ⟨⟨k + 1, by omega, by omega, HW.out.1, HW.out.2⟩, by simp [intOf]; omega⟩
    · have hkN : k = N := by omega
      subst hkN
      go_wp2
      go_ret
      exact ⟨_, rfl, HO.out, HB.out⟩
end Go.Proofs.YtnbfpmmpmblmmaaGreatDoor
