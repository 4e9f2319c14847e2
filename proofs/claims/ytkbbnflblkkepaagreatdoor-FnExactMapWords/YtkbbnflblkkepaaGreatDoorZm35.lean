/- The program lays a root record down (layFsinfo), EncodeFsinfo of the program; a copy of a root record (toFsinfo). -/
import Derived.Test.YtkbbnflblkkepaaGreatDoorZm28
import Derived.Test.YtkbbnflblkkepaaGreatDoorZm34
namespace Go.Proofs.YtkbbnflblkkepaaGreatDoor
set_option linter.unusedVariables false
set_option linter.unusedSimpArgs false
open Go.RowKit

/-- The letters of a root record, where the program's own start lays them. -/
def fsLet : List Int := [114, 111, 111, 116, 114, 101, 99, 49]
def LetF (w : World) : Prop := w.rangeAt 0 0 (fsLet.map (Value.int .u8))
theorem LetF.below {w w' : World} (h : LetF w) (hb : Below w.heap.size w w') : LetF w' := fun j v hv => by
  have h1 := h j v hv
  exact (hb.cell (p := ⟨0, 0 + j, none⟩) (cell_lt h1)).trans h1
/-- The bytes of a root record ahead of its sum. -/
def headF (gen bl cu ck op ev lg : Nat) (s1 : Int) (ds1 : List Int) (p1 q1 s2 : Int) (ds2 : List Int) (p2 q2 : Int) : List Int := fsLet ++ le 8 gen ++ le 4 bl ++ le 4 cu ++ le 8 ck ++ le 8 op ++ le 4 ev ++ le 4 lg ++ bytesR s1 ds1 p1 q1 ++ bytesR s2 ds2 p2 q2
def bytesF (gen bl cu ck op ev lg : Nat) (s1 : Int) (ds1 : List Int) (p1 q1 s2 : Int) (ds2 : List Int) (p2 q2 : Int) (sn : List Int) : List Int := headF gen bl cu ck op ev lg s1 ds1 p1 q1 s2 ds2 p2 q2 ++ bytesW sn
theorem headF_len (gen bl cu ck op ev lg : Nat) (s1 : Int) (ds1 : List Int) (p1 q1 s2 : Int) (ds2 : List Int) (p2 q2 : Int) (h1 : ds1.length = 12) (h2 : ds2.length = 12) : (headF gen bl cu ck op ev lg s1 ds1 p1 q1 s2 ds2 p2 q2).length = 176 := by
  unfold headF
  simp only [List.length_append, le_len, bytesR_len s1 ds1 p1 q1 h1, bytesR_len s2 ds2 p2 q2 h2, fsLet, List.length_cons, List.length_nil]
theorem bytesF_len (gen bl cu ck op ev lg : Nat) (s1 : Int) (ds1 : List Int) (p1 q1 s2 : Int) (ds2 : List Int) (p2 q2 : Int) (sn : List Int) (h1 : ds1.length = 12) (h2 : ds2.length = 12) (h3 : sn.length = 31) : (bytesF gen bl cu ck op ev lg s1 ds1 p1 q1 s2 ds2 p2 q2 sn).length = 300 := by
  unfold bytesF
  rw [List.length_append, headF_len _ _ _ _ _ _ _ _ _ _ _ _ _ _ _ h1 h2, bytesW_len, h3]

def encFs (gen bl cu ck op ev lg s1 : Int) (ds1 : List Int) (p1 q1 s2 : Int) (ds2 : List Int) (p2 q2 : Int) (sn : List Int) : List Int := if rightF gen bl cu ck op ev lg s1 ds1 p1 q1 s2 ds2 p2 q2 sn = true then sealed (bytesF gen.toNat bl.toNat cu.toNat ck.toNat op.toNat ev.toNat lg.toNat s1 ds1 p1 q1 s2 ds2 p2 q2 sn) else []
def codeFs (gen bl cu ck op ev lg s1 : Int) (ds1 : List Int) (p1 q1 s2 : Int) (ds2 : List Int) (p2 q2 : Int) (sn : List Int) : Int := if rightF gen bl cu ck op ev lg s1 ds1 p1 q1 s2 ds2 p2 q2 sn = true then 0 else 7
theorem bytesR_bd (s : Int) (ds : List Int) (p q : Int) : ∀ z ∈ bytesR s ds p q, 0 ≤ z ∧ z < 256 := by
  intro z h
  unfold bytesR bytesW at h
  rw [List.mem_append] at h
  rcases h with h | h
  · exact le_few _ _ z h
  · obtain ⟨v, _, hv⟩ := List.mem_flatMap.1 h
    exact le_few _ _ z hv
theorem bytesF_bd (gen bl cu ck op ev lg : Nat) (s1 : Int) (ds1 : List Int) (p1 q1 s2 : Int) (ds2 : List Int) (p2 q2 : Int) (sn : List Int) : ∀ z ∈ bytesF gen bl cu ck op ev lg s1 ds1 p1 q1 s2 ds2 p2 q2 sn, 0 ≤ z ∧ z < 256 := by
  intro z h
  unfold bytesF headF at h
  simp only [List.mem_append] at h
  rcases h with (((((((((h | h) | h) | h) | h) | h) | h) | h) | h) | h) | h
  · simp only [fsLet, List.mem_cons, List.not_mem_nil, or_false] at h
    omega
  · exact le_few _ _ z h
  · exact le_few _ _ z h
  · exact le_few _ _ z h
  · exact le_few _ _ z h
  · exact le_few _ _ z h
  · exact le_few _ _ z h
  · exact le_few _ _ z h
  · exact bytesR_bd _ _ _ _ z h
  · exact bytesR_bd _ _ _ _ z h
  · unfold bytesW at h
    obtain ⟨v, _, hv⟩ := List.mem_flatMap.1 h
    exact le_few _ _ z hv
/-- What a right root record holds. -/
structure FsBd (gen bl cu ck op ev lg s1 : Int) (ds1 : List Int) (p1 q1 s2 : Int) (ds2 : List Int) (p2 q2 : Int) (sn : List Int) : Prop where
  g0 : 0 ≤ gen ∧ gen < 281474976710656
  g1 : 0 ≤ bl ∧ bl < 2049
  g2 : 0 ≤ cu ∧ cu < 2049
  g3 : 0 ≤ ck ∧ ck < 281474976710656
  g4 : 0 ≤ op ∧ op < 281474976710656
  g5 : 0 ≤ ev ∧ ev < 2049
  g6 : 0 ≤ lg ∧ lg < 65537
  r1 : 0 ≤ s1 ∧ s1 ≤ 262144
  q1 : ∀ z ∈ ds1 ++ [p1, q1], 0 ≤ z ∧ z < 2048
  r2 : 0 ≤ s2 ∧ s2 ≤ 262144
  q2 : ∀ z ∈ ds2 ++ [p2, q2], 0 ≤ z ∧ z < 2048
  sn : ∀ z ∈ sn, 0 ≤ z ∧ z < 2048
theorem fs_bd (gen bl cu ck op ev lg s1 : Int) (ds1 : List Int) (p1 q1 s2 : Int) (ds2 : List Int) (p2 q2 : Int) (sn : List Int) (hd1 : ds1.length = 12) (hd2 : ds2.length = 12) (h : rightF gen bl cu ck op ev lg s1 ds1 p1 q1 s2 ds2 p2 q2 sn = true) : FsBd gen bl cu ck op ev lg s1 ds1 p1 q1 s2 ds2 p2 q2 sn := by
  unfold rightF at h
  simp only [Bool.and_eq_true, decide_eq_true_eq] at h
  obtain ⟨⟨⟨⟨⟨⟨⟨⟨⟨⟨⟨⟨h1, h2⟩, h3⟩, h4⟩, h5⟩, h6⟩, h7⟩, h8, _⟩, _⟩, h10⟩, _⟩, _⟩, h13⟩ := h
  have g1 := wi_true h1
  have g2 := wi_true h2
  have g3 := wi_true h3
  have g4 := wi_true h4
  have g6 := wi_true h6
  have e1 := right_bd hd1 h8
  have e2 := right_bd hd2 h10
  have g7 : lg = 0 ∨ (8192 ≤ lg ∧ lg ≤ 65536) := by unfold logB at h7; simpa using h7
  refine ⟨by omega, by omega, by omega, by omega, by omega, by omega, by omega, e1.1, e1.2, e2.1, e2.2, fun z hz => ?_⟩
  unfold snB at h13
  have := List.all_eq_true.1 h13 z hz
  unfold ptrB at this
  simp at this
  omega

theorem encFs_len (gen bl cu ck op ev lg s1 : Int) (ds1 : List Int) (p1 q1 s2 : Int) (ds2 : List Int) (p2 q2 : Int) (sn : List Int) (hd1 : ds1.length = 12) (hd2 : ds2.length = 12) (hsn : sn.length = 31) : (encFs gen bl cu ck op ev lg s1 ds1 p1 q1 s2 ds2 p2 q2 sn).length ≤ 512 := by
  unfold encFs
  split
  · rename_i h
    rw [sealed_len _ (by rw [bytesF_len _ _ _ _ _ _ _ _ _ _ _ _ _ _ _ _ hd1 hd2 hsn]; omega)]
    omega
  · simp
theorem over_part (A B Z D : List Int) (o : Nat) (hA : A.length = o) (hB : B.length = Z.length) : over (A ++ (B ++ D)) o Z = A ++ (Z ++ D) := by
  unfold over
  subst hA
  simp [← hB, List.drop_append]
end Go.Proofs.YtkbbnflblkkepaaGreatDoor
