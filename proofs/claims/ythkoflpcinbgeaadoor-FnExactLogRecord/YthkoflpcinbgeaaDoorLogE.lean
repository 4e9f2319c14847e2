/- EncodeOp of program and model whole; an operation's helpers: szOp, toOp, eqOp, markOp, heldOp. -/
import Derived.Test.YthkoflpcinbgeaaDoorLogC
import Derived.Test.YthkoflpcinbgeaaDoorLogD
namespace Go.Proofs.YthkoflpcinbgeaaDoor
set_option linter.unusedVariables false
set_option linter.unusedSimpArgs false
open Go.RowKit

def codeEO (K U G : Int) (p q : ByteArray) (n : Nat) : Int := if rightO K U G p q n then 0 else 7
def encO (K A B U G : Int) (p q : ByteArray) (ds : List Int) : List Int := if rightO K U G p q ds.length then bytesO K.toNat A B U.toNat G.toNat p q ds else []
theorem rightO_bd {K U G : Int} {p q : ByteArray} {n : Nat} (h : rightO K U G p q n = true) : (0 ≤ K ∧ K < 256) ∧ (0 ≤ U ∧ U < 65536) ∧ (0 ≤ G ∧ G < 65536) ∧ p.size ≤ 512 ∧ q.size ≤ 512 ∧ n ≤ 4096 := by
  unfold rightO wi at h
  simp only [Bool.and_eq_true, decide_eq_true_eq] at h
  omega
theorem encO_len (K A B U G : Int) (p q : ByteArray) (ds : List Int) : (encO K A B U G p q ds).length ≤ 5149 := by
  unfold encO
  split
  · next h =>
    have := rightO_bd h
    rw [bytesO_len]
    omega
  · simp
theorem specEO_any (K A B U G : Int) (p q : ByteArray) (dv : Value) (ds : List Int) (w : World) (h : Rd .u8 w dv ds) (hp : p.size ≤ maxLen) (hq : q.size ≤ maxLen) :
    Calls Tryd.prog 7 #[.agg (opC K A B U G p q dv)] w fun e w' => ∃ v', e = .returned (.tuple #[v', .int .i64 (codeEO K U G p q ds.length)]) ∧ w'.ownsRow w.heap.size 5 1 v' (encO K A B U G p q ds).length ((encO K A B U G p q ds).map (Value.int .u8)) ∧ Below w.heap.size w w' := by
  cases hr : rightO K U G p q ds.length with
  | false =>
    have hl := h.len
    obtain ⟨da, dc, rfl⟩ : ∃ a c, dv = .slice a ds.length c := by obtain ⟨a, c, e, _⟩ := h; exact ⟨a, c, e⟩
    refine (specEO_false K A B U G p q da ds.length dc w hp hq hl hr).mono ?_
    rintro e w' ⟨rfl, hb⟩
    rw [show codeEO K U G p q ds.length = 7 from by simp [codeEO, hr], show encO K A B U G p q ds = [] from by simp [encO, hr]]
    exact ⟨_, rfl, World.ownsRow_nil _ _ _ _, hb⟩
  | true =>
    obtain ⟨b0, b1, b2, b3, b4, b5⟩ := rightO_bd hr
    obtain ⟨k, rfl⟩ := Int.eq_ofNat_of_zero_le b0.1
    obtain ⟨u, rfl⟩ := Int.eq_ofNat_of_zero_le b1.1
    obtain ⟨g, rfl⟩ := Int.eq_ofNat_of_zero_le b2.1
    refine (specEO_true k A B u g p q dv ds w h (by omega) (by omega) (by omega) b3 b4 b5).mono ?_
    rintro e w' ⟨v', rfl, ho, hb⟩
    refine ⟨v', by unfold codeEO; rw [hr]; rfl, ?_, hb⟩
    unfold encO
    rw [if_pos hr]
    simp only [Int.toNat_natCast]
    exact ho
set_option maxRecDepth 100000 in
set_option maxHeartbeats 1000000 in
theorem implEO_any (K A B U G : Int) (p q : ByteArray) (dv : Value) (ds : List Int) (w : World) (h : Rd .u8 w dv ds) (hp : p.size ≤ maxLen) (hq : q.size ≤ maxLen) (hg : ErrT w) :
    Calls Tryd.prog 9 #[.agg (opC K A B U G p q dv)] w fun e w' => ∃ v', e = .returned (.tuple #[v', .int .i64 (codeEO K U G p q ds.length)]) ∧ w'.ownsRow w.heap.size 5 1 v' (encO K A B U G p q ds).length ((encO K A B U G p q ds).map (Value.int .u8)) ∧ Below w.heap.size w w' := by
  have HE := hide hg
  have HR := hide h
  have HN := hide (And.intro hp (And.intro hq h.len))
  obtain ⟨da, dc, rfl⟩ : ∃ a c, dv = .slice a ds.length c := by obtain ⟨a, c, e, _⟩ := h; exact ⟨a, c, e⟩
  have K0 := hide (And.intro (Blk.new w (opC K A B U G p q (.slice da ds.length dc)) 28) (show Below w.heap.size w (w.alloc (.cells (opC K A B U G p q (.slice da ds.length dc)) 28)) from (Below.refl _ _).alloc (Nat.le_refl _) _))
  clear hp hq hg h
  go_enter Tryd.func9, Tryd.ntmps9
  go_wp2_with (first | (refine wpList_load_row rfl 28 _ rfl w.heap.size rfl 28 (opC K A B U G p q (.slice da ds.length dc)) (0, 0) _ K0.out.1 Tryd.underlying28 rfl infoO8 ?_) | (go_at_call 26; fail))
  refine (opFault_any K A B U G p q da ds.length dc 7 _ HN.out.1 HN.out.2.1 HN.out.2.2).mono ?_
  rintro e w1 ⟨ev, rfl, hf, b1⟩
  have B1 := hide (K0.out.2.trans (b1.mono K0.out.2.size))
  have K1 := hide (K0.out.1.below b1 K0.out.1.lt)
  have R1 := hide (HR.out.below (K0.out.2.trans (b1.mono K0.out.2.size)))
  clear b1 K0 HR
  rcases hf with ⟨hr, rfl⟩ | ⟨hr, m, hm⟩
  · have HRR := hide hr
    clear hr
    go_wp2_with (first | (refine wpList_load_row rfl 28 _ rfl w.heap.size rfl 28 (opC K A B U G p q (.slice da ds.length dc)) (0, 0) _ K1.out Tryd.underlying28 rfl infoO8 ?_) | (go_at_call 28; fail))
    have hL : Calls Tryd.prog 28 #[.agg (opC K A B U G p q (.slice da ds.length dc))] w1 fun e w' => ∃ v', e = .returned v' ∧ w'.ownsRow w1.heap.size 5 1 v' (encO K A B U G p q ds).length ((encO K A B U G p q ds).map (Value.int .u8)) ∧ Below w1.heap.size w1 w' := by
      obtain ⟨b0, b1, b2, b3, b4, b5⟩ := rightO_bd HRR.out
      have hr := HRR.out
      obtain ⟨k, rfl⟩ := Int.eq_ofNat_of_zero_le b0.1
      obtain ⟨u, rfl⟩ := Int.eq_ofNat_of_zero_le b1.1
      obtain ⟨g, rfl⟩ := Int.eq_ofNat_of_zero_le b2.1
      unfold encO
      rw [if_pos hr]
      exact layOp_any k A B u g p q _ ds w1 R1.out (by omega) (by omega) (by omega) b3 b4 b5
    refine hL.mono ?_
    rintro e w2 ⟨v', rfl, ho, hb⟩
    have H2 := hide (And.intro ho hb)
    clear ho hb hL
    go_wp2
    go_ret2
    refine ⟨v', by unfold codeEO; rw [HRR.out]; rfl, own_mono H2.out.1 B1.out.size, B1.out.trans (H2.out.2.mono B1.out.size)⟩
  · obtain ⟨t', x', rfl⟩ := hm.iface
    have HRR := hide hr
    have H4 := hide hm
    clear hr hm
    go_wp2_with (go_at_call 27; refine (codeOf_any m _ 7 _ _ H4.out (HE.out.below B1.out)).mono ?_; rintro e w2 ⟨rfl, hb2⟩)
    go_ret2
    rw [show codeEO K U G p q ds.length = 7 from by simp [codeEO, HRR.out], show encO K A B U G p q ds = [] from by simp [encO, HRR.out]]
    exact ⟨_, rfl, World.ownsRow_nil _ _ _ _, B1.out.trans (hb2.mono B1.out.size)⟩
end Go.Proofs.YthkoflpcinbgeaaDoor
