/- A line read as an operation: mathematics. -/
import Derived.Test.YtnljpaohkkdjjaaGreatDoorPlG
import Derived.Test.YtnljpaohkkdjjaaGreatDoorPlH
import Derived.Test.YtnljpaohkkdjjaaGreatDoorPlC
import Derived.Test.YtnljpaohkkdjjaaGreatDoorPlE
namespace Go.Proofs.YtnljpaohkkdjjaaGreatDoor
set_option linter.unusedVariables false
set_option linter.unusedSimpArgs false

/-- What a line's words say: two numbers, two names, bytes. -/
structure OpD where
  A : Int
  B : Int
  p : List UInt8
  q : List UInt8
  d : List UInt8
def opD0 : OpD := ⟨0, 0, [], [], []⟩
/-- What one word says, by the letter of its form; or the fault's code. -/
def sayF (f : UInt8) (x : List UInt8) : Except Int (Int × List UInt8) :=
  if f = 110 then (if numOk x then .ok (numV x, []) else .error 27)
  else if f = 109 then (if modeOk x then .ok (modeI x, []) else .error 27)
  else match textR x with
    | some t => .ok (0, t)
    | none => .error 28
def putF (s : OpD) (nn : Nat) (f : UInt8) (y : Int × List UInt8) : OpD :=
  if f = 110 ∨ f = 109 then (if nn = 0 then { s with A := y.1 } else { s with B := y.1 })
  else if f = 112 then { s with p := y.2 } else if f = 113 then { s with q := y.2 } else { s with d := y.2 }
def nnF (nn : Nat) (f : UInt8) : Nat := if f = 110 ∨ f = 109 then nn + 1 else nn
/-- The model's way: word by word into the operation. -/
def runF : OpD → Nat → List UInt8 → List (List UInt8) → Except Int OpD
  | s, _, [], _ => .ok s
  | s, _, _ :: _, [] => .ok s
  | s, nn, f :: fs, x :: xs => match sayF f x with
    | .ok y => runF (putF s nn f y) (nnF nn f) fs xs
    | .error c => .error c
/-- The program's way: all words first. -/
def sayAll : List UInt8 → List (List UInt8) → Except Int (List (Int × List UInt8))
  | [], _ => .ok []
  | _ :: _, [] => .ok []
  | f :: fs, x :: xs => match sayF f x with
    | .ok y => (sayAll fs xs).map (y :: ·)
    | .error c => .error c
/-- How the program puts what is said into an operation. -/
def fillBy (j : Nat) (S : List (Int × List UInt8)) : OpD :=
  let a := S.getD 0 (0, []); let b := S.getD 1 (0, []); let c := S.getD 2 (0, [])
  match j with
  | 1 => { opD0 with p := a.2 }
  | 2 => { opD0 with p := a.2, q := b.2 }
  | 3 => { opD0 with p := a.2, A := b.1 }
  | 4 => { opD0 with p := a.2, A := b.1, B := c.1 }
  | 5 => { opD0 with p := a.2, A := b.1, d := c.2 }
  | 6 => { opD0 with d := a.2 }
  | 7 => { opD0 with A := a.1 }
  | 8 => { opD0 with A := a.1, d := b.2 }
  | _ => opD0
def cmdK : List Nat := [3, 3, 2, 2, 1, 1, 2, 5, 3, 3, 4, 4, 1, 1, 1, 1, 4, 1, 1, 1, 0, 0, 0, 2, 6, 7, 8]
theorem len1 {xs : List (List UInt8)} (h : xs.length = 1) : ∃ a, xs = [a] := List.length_eq_one_iff.1 h
theorem len2 {xs : List (List UInt8)} (h : xs.length = 2) : ∃ a b, xs = [a, b] := by
  match xs, h with
  | [a, b], _ => exact ⟨a, b, rfl⟩
theorem len3 {xs : List (List UInt8)} (h : xs.length = 3) : ∃ a b c, xs = [a, b, c] := by
  match xs, h with
  | [a, b, c], _ => exact ⟨a, b, c, rfl⟩
theorem say_text {f : UInt8} (h1 : f ≠ 110) (h2 : f ≠ 109) (x : List UInt8) : sayF f x = match textR x with | some t => .ok (0, t) | none => .error 28 := by
  unfold sayF; rw [if_neg h1, if_neg h2]
theorem runs1 (f : UInt8) (x : List UInt8) : runF opD0 0 [f] [x] = (sayF f x).map (fun y => putF opD0 0 f y) := by
  simp only [runF]; cases sayF f x <;> rfl
theorem runs2 (f g : UInt8) (x y : List UInt8) : runF opD0 0 [f, g] [x, y] = (sayF f x).bind fun a => (sayF g y).map fun b => putF (putF opD0 0 f a) (nnF 0 f) g b := by
  simp only [runF]; cases sayF f x with
  | error c => rfl
  | ok a => simp only []; cases sayF g y <;> rfl
theorem runs3 (f g h : UInt8) (x y z : List UInt8) : runF opD0 0 [f, g, h] [x, y, z] = (sayF f x).bind fun a => (sayF g y).bind fun b => (sayF h z).map fun c => putF (putF (putF opD0 0 f a) (nnF 0 f) g b) (nnF (nnF 0 f) g) h c := by
  simp only [runF]; cases sayF f x with
  | error c => rfl
  | ok a => 
    simp only []; cases sayF g y with
    | error c => rfl
    | ok b => simp only []; cases sayF h z <;> rfl
theorem says1 (f : UInt8) (x : List UInt8) : sayAll [f] [x] = (sayF f x).map (fun y => [y]) := by
  simp only [sayAll]; cases sayF f x <;> rfl
theorem says2 (f g : UInt8) (x y : List UInt8) : sayAll [f, g] [x, y] = (sayF f x).bind fun a => (sayF g y).map fun b => [a, b] := by
  simp only [sayAll]; cases sayF f x with
  | error c => rfl
  | ok a => simp only []; cases sayF g y <;> rfl
theorem says3 (f g h : UInt8) (x y z : List UInt8) : sayAll [f, g, h] [x, y, z] = (sayF f x).bind fun a => (sayF g y).bind fun b => (sayF h z).map fun c => [a, b, c] := by
  simp only [sayAll]; cases sayF f x with
  | error c => rfl
  | ok a => 
    simp only []; cases sayF g y with
    | error c => rfl
    | ok b => simp only []; cases sayF h z <;> rfl
theorem map1 {f : UInt8} {j : Nat} (x : List UInt8) (h : ∀ a, putF opD0 0 f a = fillBy j [a]) : runF opD0 0 [f] [x] = (sayAll [f] [x]).map (fillBy j) := by
  rw [runs1, says1]; cases sayF f x with
  | error c => rfl
  | ok a => exact congrArg Except.ok (h a)
theorem map2 {f g : UInt8} {j : Nat} (x y : List UInt8) (h : ∀ a b, putF (putF opD0 0 f a) (nnF 0 f) g b = fillBy j [a, b]) : runF opD0 0 [f, g] [x, y] = (sayAll [f, g] [x, y]).map (fillBy j) := by
  rw [runs2, says2]; cases sayF f x with
  | error c => rfl
  | ok a =>
    cases sayF g y with
    | error c => rfl
    | ok b => exact congrArg Except.ok (h a b)
theorem map3 {f g k : UInt8} {j : Nat} (x y z : List UInt8) (h : ∀ a b c, putF (putF (putF opD0 0 f a) (nnF 0 f) g b) (nnF (nnF 0 f) g) k c = fillBy j [a, b, c]) : runF opD0 0 [f, g, k] [x, y, z] = (sayAll [f, g, k] [x, y, z]).map (fillBy j) := by
  rw [runs3, says3]; cases sayF f x with
  | error c => rfl
  | ok a =>
    cases sayF g y with
    | error c => rfl
    | ok b =>
      cases sayF k z with
      | error c => rfl
      | ok c => exact congrArg Except.ok (h a b c)
theorem run_fill (k : Nat) (hk : k < 27) (xs : List (List UInt8)) (h : xs.length = (cmdF.getD k []).length) : runF opD0 0 (cmdF.getD k []) xs = (sayAll (cmdF.getD k []) xs).map (fillBy (cmdK.getD k 0)) := by
  match k, hk with
  | 0, _ => obtain ⟨a, b, rfl⟩ := len2 h; exact map2 a b (fun _ _ => rfl)
  | 1, _ => obtain ⟨a, b, rfl⟩ := len2 h; exact map2 a b (fun _ _ => rfl)
  | 2, _ => obtain ⟨a, b, rfl⟩ := len2 h; exact map2 a b (fun _ _ => rfl)
  | 3, _ => obtain ⟨a, b, rfl⟩ := len2 h; exact map2 a b (fun _ _ => rfl)
  | 4, _ => obtain ⟨a, rfl⟩ := len1 h; exact map1 a (fun _ => rfl)
  | 5, _ => obtain ⟨a, rfl⟩ := len1 h; exact map1 a (fun _ => rfl)
  | 6, _ => obtain ⟨a, b, rfl⟩ := len2 h; exact map2 a b (fun _ _ => rfl)
  | 7, _ => obtain ⟨a, b, c, rfl⟩ := len3 h; exact map3 a b c (fun _ _ _ => rfl)
  | 8, _ => obtain ⟨a, b, rfl⟩ := len2 h; exact map2 a b (fun _ _ => rfl)
  | 9, _ => obtain ⟨a, b, rfl⟩ := len2 h; exact map2 a b (fun _ _ => rfl)
  | 10, _ => obtain ⟨a, b, c, rfl⟩ := len3 h; exact map3 a b c (fun _ _ _ => rfl)
  | 11, _ => obtain ⟨a, b, c, rfl⟩ := len3 h; exact map3 a b c (fun _ _ _ => rfl)
  | 12, _ => obtain ⟨a, rfl⟩ := len1 h; exact map1 a (fun _ => rfl)
  | 13, _ => obtain ⟨a, rfl⟩ := len1 h; exact map1 a (fun _ => rfl)
  | 14, _ => obtain ⟨a, rfl⟩ := len1 h; exact map1 a (fun _ => rfl)
  | 15, _ => obtain ⟨a, rfl⟩ := len1 h; exact map1 a (fun _ => rfl)
  | 16, _ => obtain ⟨a, b, c, rfl⟩ := len3 h; exact map3 a b c (fun _ _ _ => rfl)
  | 17, _ => obtain ⟨a, rfl⟩ := len1 h; exact map1 a (fun _ => rfl)
  | 18, _ => obtain ⟨a, rfl⟩ := len1 h; exact map1 a (fun _ => rfl)
  | 19, _ => obtain ⟨a, rfl⟩ := len1 h; exact map1 a (fun _ => rfl)
  | 20, _ => obtain rfl := List.eq_nil_of_length_eq_zero h; rfl
  | 21, _ => obtain rfl := List.eq_nil_of_length_eq_zero h; rfl
  | 22, _ => obtain rfl := List.eq_nil_of_length_eq_zero h; rfl
  | 23, _ => obtain ⟨a, b, rfl⟩ := len2 h; exact map2 a b (fun _ _ => rfl)
  | 24, _ => obtain ⟨a, rfl⟩ := len1 h; exact map1 a (fun _ => rfl)
  | 25, _ => obtain ⟨a, rfl⟩ := len1 h; exact map1 a (fun _ => rfl)
  | 26, _ => obtain ⟨a, b, rfl⟩ := len2 h; exact map2 a b (fun _ _ => rfl)
  | n + 27, hk => omega
/-- A line read: the kind's number and what its words say, or the fault's code. -/
def parseL (l : List UInt8) : Except Int (Nat × OpD) :=
  if 2048 < l.length then .error 23
  else match wordsL l with
    | [] => .error 25
    | x :: xs => match cmdAt x with
      | none => .error 25
      | some k => if xs.length = (cmdF.getD k []).length then (runF opD0 0 (cmdF.getD k []) xs).map (fun s => (k + 1, s)) else .error 26
theorem parse_large {l : List UInt8} (h : 2048 < l.length) : parseL l = .error 23 := by unfold parseL; rw [if_pos h]
theorem parse_none {l : List UInt8} (h : ¬ 2048 < l.length) (hw : wordsL l = []) : parseL l = .error 25 := by unfold parseL; rw [if_neg h, hw]
theorem parse_word {l x : List UInt8} {xs : List (List UInt8)} (h : ¬ 2048 < l.length) (hw : wordsL l = x :: xs) (hc : cmdAt x = none) : parseL l = .error 25 := by unfold parseL; rw [if_neg h, hw]; simp only [hc]
theorem parse_args {l x : List UInt8} {xs : List (List UInt8)} {k : Nat} (h : ¬ 2048 < l.length) (hw : wordsL l = x :: xs) (hc : cmdAt x = some k) (hn : xs.length ≠ (cmdF.getD k []).length) : parseL l = .error 26 := by unfold parseL; rw [if_neg h, hw]; simp only [hc]; rw [if_neg hn]
theorem parse_run {l x : List UInt8} {xs : List (List UInt8)} {k : Nat} (h : ¬ 2048 < l.length) (hw : wordsL l = x :: xs) (hc : cmdAt x = some k) (hn : xs.length = (cmdF.getD k []).length) : parseL l = (runF opD0 0 (cmdF.getD k []) xs).map (fun s => (k + 1, s)) := by unfold parseL; rw [if_neg h, hw]; simp only [hc]; rw [if_pos hn]
theorem cmd_lt {x : List UInt8} {k : Nat} (h : cmdAt x = some k) : k < 27 := by
  unfold cmdAt at h
  rw [List.findIdx?_eq_some_iff_getElem] at h
  obtain ⟨h1, _⟩ := h
  exact h1
theorem cmd_eq {x : List UInt8} {k : Nat} (h : cmdAt x = some k) : cmdN[k]? = some x := by
  unfold cmdAt at h
  rw [List.findIdx?_eq_some_iff_getElem] at h
  obtain ⟨h1, h2, _⟩ := h
  rw [List.getElem?_eq_getElem h1]
  simpa using h2
/-- What the words of a line may weigh. -/
theorem words_len (l : List UInt8) : (wordsL l).length ≤ l.length + 1 := Nat.le_trans (List.length_filter_le _ _) (cut_len 32 l)
theorem cut_small (c : UInt8) : ∀ (l : List UInt8), ∀ x ∈ cutL c l, x.length ≤ l.length
  | [], x, hx => by simp [cutL] at hx; subst hx; simp
  | a :: l, x, hx => by
    unfold cutL at hx
    split at hx
    · rcases List.mem_cons.1 hx with rfl | hx
      · simp
      · exact Nat.le_succ_of_le (cut_small c l x hx)
    · have ih := cut_small c l
      revert hx
      cases hq : cutL c l with
      | nil => intro hx; simp at hx; subst hx; simp
      | cons h t =>
        intro hx
        rw [hq] at ih
        rcases List.mem_cons.1 hx with rfl | hx
        · have := ih h (by simp); simp; omega
        · have := ih x (by simp [hx]); simp; omega
theorem words_small {l x : List UInt8} (h : x ∈ wordsL l) : x.length ≤ l.length := cut_small 32 l x (List.mem_filter.1 h).1
theorem textF_len : ∀ (n : Nat) (l t : List UInt8), l.length ≤ n → textF l = some t → t.length ≤ l.length
  | 0, l, t, hn, h => by
    have : l = [] := List.eq_nil_of_length_eq_zero (by omega)
    subst this; rw [textF_nil] at h; cases h; simp
  | n + 1, [], t, hn, h => by rw [textF_nil] at h; cases h; simp
  | n + 1, c :: l, t, hn, h => by
    simp at hn
    by_cases hb : c.toNat < 33 ∨ 126 < c.toNat
    · rw [textF_bad c l hb] at h; cases h
    by_cases h37 : c.toNat = 37
    · match l, h with
      | [], h => rw [textF_short c [] h37 (by simp)] at h; cases h
      | [a], h => rw [textF_short c [a] h37 (by simp)] at h; cases h
      | a :: b :: r, h =>
        by_cases hd : 0 ≤ digI a.toNat ∧ 0 ≤ digI b.toNat
        · rw [textF_esc c a b r h37 hd.1 hd.2] at h
          cases hr : textF r with
          | none => rw [hr] at h; cases h
          | some t' =>
            rw [hr] at h
            simp at h
            subst h
            have := textF_len n r t' (by simp at hn; omega) hr
            simp
            omega
        · rw [textF_noesc c a b r h37 hd] at h; cases h
    · rw [textF_plain c l hb h37] at h
      cases hr : textF l with
      | none => rw [hr] at h; cases h
      | some t' =>
        rw [hr] at h
        simp at h
        subst h
        have := textF_len n l t' hn hr
        simp
        omega
theorem textR_len {l t : List UInt8} (h : textR l = some t) : t.length ≤ l.length := by
  unfold textR at h
  split at h
  · cases h; simp
  · exact textF_len _ l t (Nat.le_refl _) h
end Go.Proofs.YtnljpaohkkdjjaaGreatDoor
