/- Trees of digests in plain words; two in one. -/
import Derived.Test.YtmijlojjkgeplaaEq
import Derived.Test.YtmijlojjkgeplaaMkN
import Derived.Test.YtmijlojjkgeplaaMkH
open Go Go.RowKit
namespace Go.Proofs.Ytmijlojjkgeplaa
theorem nodeOf_len32 (xs ys : List UInt8) : (nodeOf xs ys).length = 32 := nodeOf_len xs ys
def nodeH (a b : H32) : H32 := ⟨nodeOf a.l b.l, nodeOf_len a.l b.l⟩
def rootF : Nat → List H32 → H32
  | 0, _ => zeroH
  | _ + 1, [] => zeroH
  | _ + 1, [a] => a
  | f + 1, a :: b :: l => nodeH (rootF f ((a :: b :: l).take (halfN (l.length + 2)))) (rootF f ((a :: b :: l).drop (halfN (l.length + 2))))
theorem rootF_two (f : Nat) (l : List H32) (h : 2 ≤ l.length) : rootF (f + 1) l = nodeH (rootF f (l.take (halfN l.length))) (rootF f (l.drop (halfN l.length))) := by
  rcases l with _ | ⟨a, _ | ⟨b, l⟩⟩
  · simp at h
  · simp at h
  · rfl
theorem rootF_fuel : ∀ (f g : Nat) (l : List H32), l.length ≤ f → l.length ≤ g → rootF f l = rootF g l
  | 0, g, l, h, _ => by
    obtain rfl : l = [] := List.eq_nil_of_length_eq_zero (by omega)
    cases g <;> rfl
  | f + 1, 0, l, _, h => by
    obtain rfl : l = [] := List.eq_nil_of_length_eq_zero (by omega)
    rfl
  | f + 1, g + 1, l, h1, h2 => by
    rcases l with _ | ⟨a, _ | ⟨b, l⟩⟩
    · rfl
    · rfl
    · have hl : 2 ≤ (a :: b :: l).length := by simp
      have hh := halfN_in _ hl
      rw [rootF_two f _ hl, rootF_two g _ hl]
      generalize (a :: b :: l) = l at *
      rw [rootF_fuel f g (l.take (halfN l.length)) (by rw [List.length_take]; omega) (by rw [List.length_take]; omega),
        rootF_fuel f g (l.drop (halfN l.length)) (by rw [List.length_drop]; omega) (by rw [List.length_drop]; omega)]
def rootL (l : List H32) : H32 := rootF l.length l
theorem rootL_two (l : List H32) (h : 2 ≤ l.length) : rootL l = nodeH (rootL (l.take (halfN l.length))) (rootL (l.drop (halfN l.length))) := by
  have hh := halfN_in _ h
  unfold rootL
  obtain ⟨f, hf⟩ : ∃ f, l.length = f + 1 := ⟨l.length - 1, by omega⟩
  conv => lhs; rw [hf, rootF_two f l h]
  rw [rootF_fuel f (l.take (halfN l.length)).length _ (by rw [List.length_take]; omega) (Nat.le_refl _), rootF_fuel f (l.drop (halfN l.length)).length _ (by rw [List.length_drop]; omega) (Nat.le_refl _)]
theorem rootL_nil : rootL [] = zeroH := rfl
theorem rootL_one (a : H32) : rootL [a] = a := rfl
/-- the way up -/
def pathF : Nat → List H32 → Nat → List H32
  | 0, _, _ => []
  | f + 1, l, i => if l.length < 2 then [] else
      if i < halfN l.length then pathF f (l.take (halfN l.length)) i ++ [rootL (l.drop (halfN l.length))]
      else pathF f (l.drop (halfN l.length)) (i - halfN l.length) ++ [rootL (l.take (halfN l.length))]
theorem pathF_small (f : Nat) (l : List H32) (i : Nat) (h : l.length < 2) : pathF f l i = [] := by
  cases f with
  | zero => rfl
  | succ f => rw [pathF, if_pos h]
theorem pathF_fuel : ∀ (f g : Nat) (l : List H32) (i : Nat), l.length ≤ f → l.length ≤ g → pathF f l i = pathF g l i
  | 0, 0, l, i, _, _ => rfl
  | 0, g + 1, l, i, h, _ => by rw [pathF_small _ _ _ (by omega), pathF_small _ _ _ (by omega)]
  | f + 1, 0, l, i, _, h => by rw [pathF_small _ _ _ (by omega), pathF_small _ _ _ (by omega)]
  | f + 1, g + 1, l, i, h1, h2 => by
    rw [pathF, pathF]
    by_cases hl : l.length < 2
    · rw [if_pos hl, if_pos hl]
    · have hh := halfN_in l.length (by omega)
      rw [if_neg hl, if_neg hl, pathF_fuel f g (l.take (halfN l.length)) i (by rw [List.length_take]; omega) (by rw [List.length_take]; omega),
        pathF_fuel f g (l.drop (halfN l.length)) (i - halfN l.length) (by rw [List.length_drop]; omega) (by rw [List.length_drop]; omega)]
def pathL (l : List H32) (i : Nat) : List H32 := pathF l.length l i
theorem pathL_small (l : List H32) (i : Nat) (h : l.length < 2) : pathL l i = [] := by
  unfold pathL
  rcases hl : l.length with _ | n
  · rfl
  · rw [pathF, if_pos h]
theorem pathL_lo (l : List H32) (i : Nat) (h : 2 ≤ l.length) (hi : i < halfN l.length) : pathL l i = pathL (l.take (halfN l.length)) i ++ [rootL (l.drop (halfN l.length))] := by
  have hh := halfN_in _ h
  unfold pathL
  obtain ⟨f, hf⟩ : ∃ f, l.length = f + 1 := ⟨l.length - 1, by omega⟩
  conv => lhs; rw [hf, pathF, if_neg (by omega), if_pos hi]
  rw [pathF_fuel f (l.take (halfN l.length)).length _ _ (by rw [List.length_take]; omega) (Nat.le_refl _)]
theorem pathL_hi (l : List H32) (i : Nat) (h : 2 ≤ l.length) (hi : ¬ i < halfN l.length) : pathL l i = pathL (l.drop (halfN l.length)) (i - halfN l.length) ++ [rootL (l.take (halfN l.length))] := by
  have hh := halfN_in _ h
  unfold pathL
  obtain ⟨f, hf⟩ : ∃ f, l.length = f + 1 := ⟨l.length - 1, by omega⟩
  conv => lhs; rw [hf, pathF, if_neg (by omega), if_neg hi]
  rw [pathF_fuel f (l.drop (halfN l.length)).length _ _ (by rw [List.length_drop]; omega) (Nat.le_refl _)]
theorem pathF_len : ∀ (f : Nat) (l : List H32) (i : Nat), (pathF f l i).length ≤ f
  | 0, l, i => by simp [pathF]
  | f + 1, l, i => by
    rw [pathF]
    split
    · simp
    · split
      · rw [List.length_append, List.length_singleton]; have := pathF_len f (l.take (halfN l.length)) i; omega
      · rw [List.length_append, List.length_singleton]; have := pathF_len f (l.drop (halfN l.length)) (i - halfN l.length); omega
theorem pathL_len (l : List H32) (i : Nat) : (pathL l i).length ≤ l.length := pathF_len _ _ _
/-- up the way -/
def upL : H32 → Nat → List H32 → H32
  | h, _, [] => h
  | h, i, o :: l => upL (if i % 2 = 0 then nodeH h o else nodeH o h) (i / 2) l
theorem nodeC (a b : H32) (w : World) : Calls Try.prog 109 #[.agg (u8s a.l), .agg (u8s b.l)] w fun e w' => e = .returned (.agg (u8s (nodeH a b).l)) ∧ Step nowhere w w' :=
  (node_calls a.l b.l w a.len b.len).mono fun _ _ ⟨h1, h2⟩ => ⟨h1, ⟨h2.out⟩⟩
theorem rnodeC (a b : H32) (w : World) : Calls Try.prog 96 #[.agg (u8s a.l), .agg (u8s b.l)] w fun e w' => e = .returned (.agg (u8s (nodeH a b).l)) ∧ Step nowhere w w' :=
  (refNode_calls a.l b.l w a.len b.len).mono fun _ _ ⟨h1, h2⟩ => ⟨h1, ⟨h2.out⟩⟩
end Go.Proofs.Ytmijlojjkgeplaa
