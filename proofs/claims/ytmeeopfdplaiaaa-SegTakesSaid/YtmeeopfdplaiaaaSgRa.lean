/- The reference's rows of open messages, in mathematics and in memory. -/
import Derived.Test.YtmeeopfdplaiaaaSgP
import Derived.Test.YtmeeopfdplaiaaaSgBn
open Go Go.RowKit
namespace Go.Proofs.Ytmeeopfdplaiaaa
structure OM where
  id : Int
  want : Nat
  next : Nat
  last : Int
  A : Option Addr
  c : Nat
  b : List UInt8
instance : RowC OM := ⟨5, fun o => [.int .i64 o.id, .int .i64 o.want, .int .i64 o.next, .int .i64 o.last, .slice o.A o.b.length o.c], fun _ => rfl, fun o u hu => by
    simp only [List.mem_cons, List.not_mem_nil, or_false] at hu
    rcases hu with rfl | rfl | rfl | rfl | rfl <;> rfl, ⟨0, 0, 0, 0, none, 0, []⟩⟩
def absM (o : OM) : Msg := ⟨o.b, o.want, o.next % 16, o.last⟩
instance : ZeroT Try.prog 90 #[.int .i64 0, .int .i64 0, .int .i64 0, .int .i64 0, .slice none 0 0] := ⟨.agg #[.int .i64 0, .int .i64 0, .int .i64 0, .int .i64 0, .slice none 0 0], fun _ => by kernel_rfl, rfl⟩
instance : RowT Try.prog 90 5 := ⟨by kernel_rfl, _, Try.underlying90, rfl⟩
instance : RowT Try.prog 38 2 := ⟨by kernel_rfl, _, Try.underlying38, rfl⟩
instance : CellT Try.prog 36 := ⟨fun _ => by kernel_rfl, fun _ => by kernel_rfl⟩
instance : ElemT Try.prog 36 90 5 56 (.agg #[.int .i64 0, .int .i64 0, .int .i64 0, .int .i64 0, .slice none 0 0]) := ⟨⟨Try.underlying36, by kernel_rfl, rfl, by decide⟩⟩
/-- the list tells what is open -/
structure OR (s : St) (l : List OM) : Prop where
  m : l.length = s.m
  at_ : ∀ i, i < l.length → s.G (gt l i).id = some (absM (gt l i))
  no : ∀ k, (∀ i, i < l.length → (gt l i).id ≠ k) → s.G k = none
  inj : ∀ i j, i < l.length → j < l.length → (gt l i).id = (gt l j).id → i = j
  sm : ∀ i, i < l.length → (gt l i).next ≤ (gt l i).b.length ∧ (gt l i).want ≤ 600 ∧ (gt l i).b.length ≤ (gt l i).want ∧ -9223372036854775808 ≤ (gt l i).last ∧ (gt l i).last ≤ 9223372036854775807
theorem gt_app (l : List OM) (o : OM) (i : Nat) : gt (l ++ [o]) i = if i < l.length then gt l i else if i = l.length then o else RowC.zero := by
  simp only [gt, List.getD_eq_getElem?_getD]
  by_cases h : i < l.length
  · rw [if_pos h, List.getElem?_append_left h]
  · rw [if_neg h, List.getElem?_append_right (by omega)]
    by_cases h2 : i = l.length
    · rw [if_pos h2, h2]; simp
    · rw [if_neg h2, List.getElem?_eq_none (by simp; omega)]; rfl
theorem gt_set (l : List OM) (o : OM) (k i : Nat) (hk : k < l.length) : gt (l.set k o) i = if i = k then o else gt l i := by
  simp only [gt, List.getD_eq_getElem?_getD, List.getElem?_set]
  by_cases h : k = i
  · subst h; simp [hk]
  · rw [if_neg h, if_neg (fun e => h e.symm)]
def cutL (l : List OM) (i : Nat) : List OM := l.take i ++ l.drop (i + 1)
theorem cut_len (l : List OM) (i : Nat) (h : i < l.length) : (cutL l i).length = l.length - 1 := by simp [cutL]; omega
theorem gt_cut (l : List OM) (i j : Nat) (h : i < l.length) : gt (cutL l i) j = gt l (if j < i then j else j + 1) := by
  simp only [gt, List.getD_eq_getElem?_getD, cutL]
  by_cases hj : j < i
  · rw [if_pos hj, List.getElem?_append_left (by simp; omega), List.getElem?_take, if_pos hj]
  · rw [if_neg hj, List.getElem?_append_right (by simp; omega), List.getElem?_drop, List.length_take]
    congr 2
    omega
theorem OR.hit {s : St} {l : List OM} (h : OR s l) {k : Int} {v : Msg} (hk : s.G k = some v) : ∃ i, i < l.length ∧ (gt l i).id = k ∧ absM (gt l i) = v := by
  by_cases hh : ∃ i, i < l.length ∧ (gt l i).id = k
  · obtain ⟨i, hi, he⟩ := hh
    refine ⟨i, hi, he, ?_⟩
    have := h.at_ i hi
    rw [he, hk] at this
    exact (Option.some.inj this).symm
  · rw [h.no k (fun i hi he => hh ⟨i, hi, he⟩)] at hk
    cases hk
theorem OR.err {s : St} {l : List OM} (h : OR s l) : OR s.err l := ⟨h.m, h.at_, h.no, h.inj, h.sm⟩
theorem OR.cut {s : St} {l : List OM} (h : OR s l) {i : Nat} (hi : i < l.length) : OR (s.del (gt l i).id) (cutL l i) := by
  have hl := cut_len l i hi
  have hs : ∀ j, j < (cutL l i).length → (if j < i then j else j + 1) < l.length ∧ (if j < i then j else j + 1) ≠ i := fun j hj => by
    rw [hl] at hj
    split <;> omega
  have hsome := h.at_ i hi
  refine ⟨?_, fun j hj => ?_, fun k hk => ?_, fun a b ha hb he => ?_, fun j hj => ?_⟩
  · show _ = if (s.G (gt l i).id).isSome then s.m - 1 else s.m
    rw [hl, hsome, h.m]
    rfl
  · obtain ⟨h1, h2⟩ := hs j hj
    rw [gt_cut l i j hi]
    show (if (gt l (if j < i then j else j + 1)).id = (gt l i).id then none else s.G (gt l (if j < i then j else j + 1)).id) = _
    rw [if_neg (fun e => h2 (h.inj _ _ h1 hi e))]
    exact h.at_ _ h1
  · show (if k = (gt l i).id then none else s.G k) = none
    split
    · rfl
    · rename_i hne
      refine h.no k (fun j hj he => ?_)
      have hji : j ≠ i := fun e => hne (by rw [← he, e])
      by_cases hlt : j < i
      · have hk2 := hk j (by omega)
        rw [gt_cut l i _ hi, if_pos hlt] at hk2
        exact hk2 he
      · have hk2 := hk (j - 1) (by omega)
        rw [gt_cut l i _ hi, if_neg (by omega), show j - 1 + 1 = j by omega] at hk2
        exact hk2 he
  · obtain ⟨a1, _⟩ := hs a ha
    obtain ⟨b1, _⟩ := hs b hb
    rw [gt_cut l i a hi, gt_cut l i b hi] at he
    have := h.inj _ _ a1 b1 he
    split at this <;> split at this <;> omega
  · obtain ⟨h1, _⟩ := hs j hj
    rw [gt_cut l i j hi]
    exact h.sm _ h1
theorem OR.app {s : St} {l : List OM} (h : OR s l) {o : OM} (hn : s.G o.id = none) (ho : o.next ≤ o.b.length ∧ o.want ≤ 600 ∧ o.b.length ≤ o.want ∧ -9223372036854775808 ≤ o.last ∧ o.last ≤ 9223372036854775807) : OR (s.put o.id (absM o)) (l ++ [o]) := by
  have hne : ∀ i, i < l.length → (gt l i).id ≠ o.id := fun i hi he => by
    have := h.at_ i hi
    rw [he, hn] at this
    cases this
  refine ⟨?_, fun j hj => ?_, fun k hk => ?_, fun a b ha hb he => ?_, fun j hj => ?_⟩
  · show _ = if (s.G o.id).isSome then s.m else s.m + 1
    rw [hn, List.length_append, h.m]
    rfl
  · rw [List.length_append] at hj
    rw [gt_app]
    by_cases hjl : j < l.length
    · rw [if_pos hjl]
      show (if (gt l j).id = o.id then some (absM o) else s.G (gt l j).id) = _
      rw [if_neg (hne j hjl)]
      exact h.at_ j hjl
    · rw [if_neg hjl, if_pos (by simp at hj; omega)]
      exact if_pos rfl
  · have h0 := hk l.length (by simp)
    rw [gt_app, if_neg (Nat.lt_irrefl _), if_pos rfl] at h0
    show (if k = o.id then some (absM o) else s.G k) = none
    rw [if_neg (fun e => h0 e.symm)]
    refine h.no k (fun i hi he => hk i (by simp; omega) ?_)
    rw [gt_app, if_pos hi]
    exact he
  · rw [List.length_append] at ha hb
    simp only [List.length_cons, List.length_nil] at ha hb
    rw [gt_app, gt_app] at he
    by_cases h1 : a < l.length
    · by_cases h2 : b < l.length
      · rw [if_pos h1, if_pos h2] at he
        exact h.inj a b h1 h2 he
      · rw [if_pos h1, if_neg h2, if_pos (by omega)] at he
        exact absurd he (hne a h1)
    · by_cases h2 : b < l.length
      · rw [if_neg h1, if_pos (by omega), if_pos h2] at he
        exact absurd he.symm (hne b h2)
      · omega
  · rw [List.length_append] at hj
    rw [gt_app]
    by_cases hjl : j < l.length
    · rw [if_pos hjl]; exact h.sm j hjl
    · rw [if_neg hjl, if_pos (by simp at hj; omega)]; exact ho
theorem OR.cutPut {s : St} {l : List OM} (h : OR s l) {i : Nat} (hi : i < l.length) : s.G (gt l i).id = some (absM (gt l i)) := h.at_ i hi
/-- one told anew -/
theorem OR.set {s : St} {l : List OM} (h : OR s l) {i : Nat} (hi : i < l.length) {o : OM} (he : o.id = (gt l i).id) (ho : o.next ≤ o.b.length ∧ o.want ≤ 600 ∧ o.b.length ≤ o.want ∧ -9223372036854775808 ≤ o.last ∧ o.last ≤ 9223372036854775807) : OR (s.put o.id (absM o)) (l.set i o) := by
  have hsome := h.at_ i hi
  refine ⟨?_, fun j hj => ?_, fun k hk => ?_, fun a b ha hb hab => ?_, fun j hj => ?_⟩
  · show _ = if (s.G o.id).isSome then s.m else s.m + 1
    rw [he, hsome, List.length_set]
    exact h.m
  · rw [List.length_set] at hj
    rw [gt_set l o i j hi]
    split
    · exact if_pos rfl
    · rename_i hne
      show (if (gt l j).id = o.id then some (absM o) else s.G (gt l j).id) = _
      rw [if_neg (fun e => hne (h.inj j i hj hi (e.trans he)))]
      exact h.at_ j hj
  · have h0 := hk i (by rw [List.length_set]; exact hi)
    rw [gt_set l o i i hi, if_pos rfl] at h0
    show (if k = o.id then some (absM o) else s.G k) = none
    rw [if_neg (fun e => h0 e.symm)]
    refine h.no k (fun j hj hjk => hk j (by rw [List.length_set]; exact hj) ?_)
    rw [gt_set l o i j hi]
    split
    · rename_i e
      rw [he, ← e, hjk]
    · exact hjk
  · rw [List.length_set] at ha hb
    rw [gt_set l o i a hi, gt_set l o i b hi] at hab
    split at hab <;> split at hab
    · omega
    · rename_i e1 e2
      rw [he] at hab
      exact absurd (h.inj i b hi hb hab).symm e2
    · rename_i e1 e2
      rw [he] at hab
      exact absurd (h.inj a i ha hi hab) e1
    · exact h.inj a b ha hb hab
  · rw [List.length_set] at hj
    rw [gt_set l o i j hi]
    split
    · exact ho
    · exact h.sm j hj
end Go.Proofs.Ytmeeopfdplaiaaa
