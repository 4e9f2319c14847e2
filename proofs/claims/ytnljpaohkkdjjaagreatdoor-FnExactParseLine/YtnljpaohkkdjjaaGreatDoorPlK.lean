/- The program's readText. -/
import Derived.Test.YtnljpaohkkdjjaaGreatDoorPlJ
import Derived.Test.YtnljpaohkkdjjaaGreatDoorAs
namespace Go.Proofs.YtnljpaohkkdjjaaGreatDoor
set_option linter.unusedVariables false
set_option linter.unusedSimpArgs false
open Go.RowKit

/-- What readText answers: bytes of its own, or a fault with code 28. -/
def RtR (x : Option (List UInt8)) (lo : Nat) (v ev : Value) (w : World) : Prop := match x with
  | some t => ev = .nilIface ∧ w.ownsRow lo 5 1 v t.length (Lib.byteCells t)
  | none => v = .slice none 0 0 ∧ Flt w lo 0 ev 28
theorem rt_no {x : Option (List UInt8)} (h : x = none) {lo : Nat} {w : World} {b : Nat} (hlo : lo ≤ b) (hc : w.cell? ⟨b, 0, none⟩ = some (.int .i64 28)) : RtR x lo (.slice none 0 0) (.iface 51 (.pointer (some ⟨b, 0, none⟩))) w := by
  subst h
  exact ⟨rfl, b, rfl, hlo, hc⟩
theorem rt_yes {x : Option (List UInt8)} {t : List UInt8} (h : x = some t) {lo : Nat} {w : World} {v : Value} (ho : w.ownsRow lo 5 1 v t.length (Lib.byteCells t)) : RtR x lo v .nilIface w := by
  subst h
  exact ⟨rfl, ho⟩
theorem escV_short {l : List UInt8} {k : Nat} (h : l.length ≤ k + 2) : escV (l.drop (k + 1)) = .tuple #[.int .u8 0, .bool false] := by
  have hl : (l.drop (k + 1)).length < 2 := by rw [List.length_drop]; omega
  match l.drop (k + 1), hl with
  | [], _ => rfl
  | [a], _ => rfl
  | a :: b :: r, h => simp at h; omega
theorem escV_at {l : List UInt8} {k : Nat} {a b : UInt8} (ha : l[k + 1]? = some a) (hb : l[k + 2]? = some b) : escV (l.drop (k + 1)) = if 0 ≤ digI a.toNat ∧ 0 ≤ digI b.toNat then .tuple #[.int .u8 ((escB a b).toNat : Int), .bool true] else .tuple #[.int .u8 0, .bool false] := by
  rw [drop_at ha, drop_at hb]
  rfl
theorem ext_from (s : ByteArray) (k : Nat) : (s.extract (k + 1) s.size).data.toList = s.data.toList.drop (k + 1) ∧ (s.extract (k + 1) s.size).size ≤ s.size := by
  constructor
  · rw [ext_mk s (k + 1) s.size (Nat.le_refl _), mk_toList, List.take_of_length_le (by rw [List.length_drop]; exact Nat.le_refl _)]
  · rw [ByteArray.size_extract]; omega
set_option maxRecDepth 100000 in
set_option maxHeartbeats 4000000 in
theorem rtext_any (s : ByteArray) (w : World) (hs : s.size ≤ 1048576) :
    Calls Tryz.prog 45 #[.string s] w fun e w' => ∃ v ev, e = .returned (.tuple #[v, ev]) ∧ RtR (textR s.data.toList) w.heap.size v ev w' ∧ Below w.heap.size w w' := by
  have HLL := hide (show s.data.toList.length = s.size from rfl)
  by_cases h45 : s = ⟨#[45]⟩
  · subst h45
    have HR := hide (show textR (⟨#[45]⟩ : ByteArray).data.toList = some [] from by unfold textR; rw [if_pos rfl])
    go_enter Tryz.func45, Tryz.ntmps45
    go_wp2
    go_ret2
    exact ⟨_, _, rfl, rt_yes HR.out (World.ownsRow_nil _ _ _ _), Below.refl _ _⟩
  have hne : (s.toList == [45]) = false := by
    rw [ByteArray.toList_eq, beq_eq_false_iff_ne]
    intro e
    apply h45
    rw [← mk_data s, e]
    rfl
  have HR := hide (show textR s.data.toList = textF s.data.toList from by
    unfold textR
    rw [if_neg (fun e => h45 (by rw [← mk_data s, e]; rfl))])
  clear h45
  obtain ⟨i0, hi, hz0, hz1, hz2⟩ := info_parts infoBT
  go_enter Tryz.func45, Tryz.ntmps45
  go_wp2_with (refine wpList_make_own _ rfl _ _ 22 rfl w.heap.size 5 i0 (.int .u8 0) 1 Tryz.underlying22 hi hz0 hz1 .i64 .i64 _ s.size rfl rfl rfl (by rw [hz2]; omega) (by unfold maxLen; omega) (Nat.le_refl _) ?_; intro w1 o1 g1)
  have T0 := hide (show TxI s.data.toList w 0 [] (.slice (some ⟨w.heap.size, 0, none⟩) 0 s.size) w1 from ⟨o1, (Below.refl _ _).grown g1 (Nat.le_refl _) (fun k h => by cases h), TxA.start _⟩)
  clear hne o1 g1
  go_loopw [4, 5] (fun v i wr => ∃ (k : Nat) (o : List UInt8), k ≤ s.size ∧ i = .int .i64 (k : Int) ∧ Hid (TxI s.data.toList w k o v wr)) (fun _ i _ => s.size - (intOf i).toNat)
  case atStart => exact ⟨0, [], Nat.zero_le _, rfl, T0⟩
  case round =>
    obtain ⟨k, o, hk, rfl, HW⟩ := hrel
    obtain ⟨n, hn⟩ : ∃ n : Nat, n = o.length := ⟨_, rfl⟩
    have hnb : n ≤ 1048576 := by have := HW.out.tx.2; omega
    have HO := hide (show wr.ownsRow w.heap.size 5 1 u4 n (Lib.byteCells o) from by rw [hn]; exact HW.out.own)
    have HN := hide hn
    have HB := hide HW.out.bel.size
    clear hn
    obtain ⟨va, vc, rfl⟩ := own_shapeT HO.out
    by_cases hlt : k < s.size
    · have HC := hide (byte_at s k hlt)
      have hcb : (s[k].toNat : Int) < 256 := by have := UInt8.toNat_lt s[k]; omega
      have hc0 : (0 : Int) ≤ s[k].toNat := by omega
      generalize hcz : s[k] = c at HC hcb hc0
      by_cases hbad : c.toNat < 33 ∨ 126 < c.toNat
      · have HF := hide (show textR s.data.toList = none from by rw [HR.out]; exact HW.out.tx.bad HC.out hbad)
        rcases (by omega : (c.toNat : Int) < 33 ∨ (33 ≤ (c.toNat : Int) ∧ 126 < (c.toNat : Int))) with h1 | ⟨h1, h2⟩
        all_goals
          clear hbad
          go_wp2_with fail
          go_ret2
          exact ⟨_, _, rfl, rt_no HF.out HB.out (by simp), HW.out.bel.alloc HB.out _⟩
      have h1 : 33 ≤ (c.toNat : Int) := by omega
      have h2 : (c.toNat : Int) ≤ 126 := by omega
      have HBD := hide hbad
      clear hbad
      by_cases h37 : c.toNat = 37
      · have b3 : ((c.toNat : Int) == 37) = true := by rw [h37]; rfl
        have H37 := hide h37
        clear h37
        have hex := ext_from s k
        have HEX := hide hex
        have hk1 : k + 1 ≤ s.size := by omega
        by_cases hbadE : textF s.data.toList = none ∧ escV (s.data.toList.drop (k + 1)) = .tuple #[.int .u8 0, .bool false]
        · have HF := hide (show textR s.data.toList = none from by rw [HR.out]; exact hbadE.1)
          have HV := hide hbadE.2
          clear hbadE hex
          go_wp2_with (go_at_call 56; refine (esc_any _ _ (by have := HEX.out.2; omega)).mono ?_; rw [HEX.out.1, HV.out]; rintro e w2 ⟨rfl, b2⟩; have B2 := hide (HW.out.bel.trans (b2.mono HB.out)); clear b2)
          go_ret2
          exact ⟨_, _, rfl, rt_no HF.out B2.out.size (by simp), B2.out.alloc B2.out.size _⟩
        · obtain ⟨a, b, hca, hcb', hda, hdb⟩ : ∃ a b, s.data.toList[k + 1]? = some a ∧ s.data.toList[k + 2]? = some b ∧ 0 ≤ digI a.toNat ∧ 0 ≤ digI b.toNat := by
            by_cases hsh : s.size ≤ k + 2
            · exact absurd ⟨HW.out.tx.short HC.out H37.out (by rw [HLL.out]; exact hsh), escV_short (by rw [HLL.out]; exact hsh)⟩ hbadE
            · have ha := byte_at s (k + 1) (by omega)
              have hb := byte_at s (k + 2) (by omega)
              by_cases hd : 0 ≤ digI (s[k + 1].toNat : Int) ∧ 0 ≤ digI (s[k + 2].toNat : Int)
              · exact ⟨_, _, ha, hb, hd.1, hd.2⟩
              · exact absurd ⟨HW.out.tx.noesc HC.out ha hb H37.out hd, by rw [escV_at ha hb, if_neg hd]⟩ hbadE
          have HV := hide (show escV (s.data.toList.drop (k + 1)) = .tuple #[.int .u8 ((escB a b).toNat : Int), .bool true] from by rw [escV_at hca hcb', if_pos ⟨hda, hdb⟩])
          have HTX := hide (HW.out.tx.esc HC.out hca hcb' H37.out hda hdb)
          have hk3 : k + 3 ≤ s.size := by
            have := (List.getElem?_eq_some_iff.1 hcb').1
            rw [HLL.out] at this
            omega
          generalize escB a b = eb at HV HTX
          clear hbadE hex hca hcb' hda hdb
          go_wp2_with (first | (go_at_call 56; refine (esc_any _ _ (by have := HEX.out.2; omega)).mono ?_; rw [HEX.out.1, HV.out]; rintro e w2 ⟨rfl, b2⟩; have T2 := hide (show TxI s.data.toList w k o (.slice va n vc) w2 from ⟨own_below HW.out.own b2, HW.out.bel.trans (b2.mono HB.out), HW.out.tx⟩); have O2 := hide (own_below HO.out b2); clear b2) | (at_builtin; refine wpList_append_own _ rfl (.tmp 52) (.tmp 54) 22 rfl w.heap.size 5 i0 (.int .u8 0) 1 1 Tryz.underlying22 hi hz0 hz1 hz2 rfl (by decide) _ n _ rfl (own_below O2.out ((Below.refl _ _).alloc (Nat.le_refl _) _)) ⟨w2.heap.size, 0, none⟩ 1 1 [.int .u8 (eb.toNat : Int)] rfl rfl (one_cell w2 _ _) (one_one _) (by unfold maxLen; omega) (by omega) (by have := T2.out.bel.size; simp; omega) ?_; intro v3 w3 o3 g3 p3; have HV3 := hide (TxI.push (T2.out.alloc _) HN.out rfl HTX.out o3 g3); clear o3 g3 p3))
          go_roundw
          case rel => exact ⟨k + 3, _, by omega, by go_num, HV3⟩
          case measure => simp [intOf]; omega
      · have b3 : ((c.toNat : Int) == 37) = false := by
          have : (c.toNat : Int) ≠ 37 := by omega
          simpa using this
        have HTX := hide (HW.out.tx.plain HC.out HBD.out h37)
        clear h37
        go_wp2_with (at_builtin; refine wpList_append_own _ rfl (.tmp 52) (.tmp 54) 22 rfl w.heap.size 5 i0 (.int .u8 0) 1 1 Tryz.underlying22 hi hz0 hz1 hz2 rfl (by decide) _ n _ rfl (own_below HO.out ((Below.refl _ _).alloc (Nat.le_refl _) _)) ⟨wr.heap.size, 0, none⟩ 1 1 [.int .u8 (c.toNat : Int)] rfl rfl (one_cell wr _ _) (one_one _) (by unfold maxLen; omega) (by omega) (by have := HB.out; simp; omega) ?_; intro v2 w2 o2 g2 p2; have HV := hide (TxI.push (HW.out.alloc _) HN.out rfl HTX.out o2 g2); clear o2 g2 p2)
        go_roundw
        case rel => exact ⟨k + 1, _, by omega, by go_num, HV⟩
        case measure => simp [intOf]; omega
    · have HF := hide (show textR s.data.toList = some o from by rw [HR.out]; exact HW.out.tx.done (by rw [HLL.out]; omega))
      go_wp2
      go_ret2
      exact ⟨_, _, rfl, rt_yes HF.out HW.out.own, HW.out.bel⟩
end Go.Proofs.YtnljpaohkkdjjaaGreatDoor
