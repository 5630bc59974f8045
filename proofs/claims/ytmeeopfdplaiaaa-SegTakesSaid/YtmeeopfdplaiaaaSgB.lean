/- Messages fed frame by frame: in order, beside others, with one lost or late. -/
import Derived.Test.YtmeeopfdplaiaaaSgA
open Go Go.RowKit
namespace Go.Proofs.Ytmeeopfdplaiaaa
/-- what stands behind so many frames of a message -/
def want (l : List UInt8) (p : Nat) (now : Int) : Option Msg := if p = 0 ∨ (splitS l).length ≤ p then none else some (partM l (p - 1) now)
def upd (s : St) (k : Int) : Option Msg → St
  | none => s.del k
  | some v => s.put k v
theorem del_none {s : St} {k : Int} (h : s.G k = none) : s.del k = s := by
  cases s with
  | mk G m N =>
    simp only [St.del] at h ⊢
    simp only [h]
    congr 1
    funext x
    split
    · rename_i e; rw [e]; exact h.symm
    · rfl
theorem upd_G (s : St) (k x : Int) (o : Option Msg) : (upd s k o).G x = if x = k then o else s.G x := by cases o <;> rfl
theorem upd_N (s : St) (k : Int) (o : Option Msg) : (upd s k o).N = s.N := by cases o <;> rfl
theorem upd_m (s : St) (k : Int) (o : Option Msg) (h : (s.G k).isSome = true → 1 ≤ s.m) : (upd s k o).m + (if (s.G k).isSome then 1 else 0) = s.m + (if o.isSome then 1 else 0) := by
  cases o with
  | none =>
    show (if (s.G k).isSome then s.m - 1 else s.m) + _ = _
    cases hk : (s.G k).isSome with
    | true => have := h hk; simp; omega
    | false => simp
  | some v =>
    show (if (s.G k).isSome then s.m else s.m + 1) + _ = _
    cases hk : (s.G k).isSome <;> simp
theorem want_zero (l : List UInt8) (now : Int) : want l 0 now = none := if_pos (.inl rfl)
theorem want_end {l : List UInt8} {p : Nat} (now : Int) (h : (splitS l).length ≤ p) : want l p now = none := if_pos (.inr h)
theorem want_mid {l : List UInt8} {p : Nat} (now : Int) (h0 : 0 < p) (h : p < (splitS l).length) : want l p now = some (partM l (p - 1) now) := if_neg (by omega)
/-- the next frame of a message that came in order so far -/
theorem feed {s : St} {id now last : Int} {l : List UInt8} {p : Nat} (h1 : 1 ≤ l.length) (hm : l.length ≤ 600) (hp : p < (splitS l).length) (hs : s.G id = want l p last) (hl : staleB last now = false) :
    takeS s id ((splitS l).getD p []) now = (upd s id (want l (p + 1) now), if p + 1 = (splitS l).length then some l else none) := by
  have hlate : lateS s id now = s := by
    cases hg : s.G id with
    | none => exact late_none now hg
    | some v =>
      refine late_some hg ?_
      rw [hs] at hg
      unfold want at hg
      split at hg
      · cases hg
      · cases hg; exact hl
  unfold takeS
  rw [hlate]
  have hlen := split_len l
  rcases Nat.lt_or_ge 7 l.length with h7 | h7
  · rw [if_neg (by omega)] at hlen
    cases p with
    | zero =>
      rw [want_zero] at hs
      rw [split_get0 h7, kind_first h7 hm, drop_none hs, want_mid now (by omega) (by unfold cntN at hlen; omega), if_neg (by unfold cntN at hlen; omega)]
      rfl
    | succ i =>
      rw [hlen] at hp
      have hi : i < cntN l.length := by omega
      rw [want_mid last (by omega) (by omega)] at hs
      rw [split_getS h7 hi, kind_next, further_part (i := i) hs ((cnt_iff h7).1 hi)]
      by_cases hend : l.length ≤ 6 + 7 * (i + 1)
      · have hc : ¬ i + 1 < cntN l.length := fun h => by have := (cnt_iff h7).1 h; omega
        rw [if_pos hend, want_end now (by omega), if_pos (by omega)]
        rfl
      · have hc : i + 1 < cntN l.length := (cnt_iff h7).2 (by omega)
        rw [if_neg hend, want_mid now (by omega) (by omega), if_neg (by omega)]
        rfl
  · rw [if_pos h7] at hlen
    obtain rfl : p = 0 := by omega
    rw [want_zero] at hs
    rw [want_end now (by omega), if_pos (by omega), split_one h7]
    show kindS s id (b8 l.length :: l) now = _
    rw [kind_single h1 h7, drop_none hs]
    show _ = (s.del id, some l)
    rw [del_none hs]
/-- the first frame, whatever was open -/
theorem feed0 {s : St} {id now : Int} {l : List UInt8} (h1 : 1 ≤ l.length) (hm : l.length ≤ 600) :
    (takeS s id ((splitS l).getD 0 []) now).1.G id = want l 1 now ∧ (takeS s id ((splitS l).getD 0 []) now).2 = if 1 = (splitS l).length then some l else none := by
  unfold takeS
  have hlen := split_len l
  rcases Nat.lt_or_ge 7 l.length with h7 | h7
  · rw [if_neg (by omega)] at hlen
    rw [split_get0 h7, kind_first h7 hm, want_mid now (by omega) (by unfold cntN at hlen; omega), if_neg (by unfold cntN at hlen; omega)]
    exact ⟨if_pos rfl, rfl⟩
  · rw [if_pos h7] at hlen
    rw [want_end now (by omega), if_pos (by omega), split_one h7]
    show (kindS _ id (b8 l.length :: l) now).1.G id = _ ∧ (kindS _ id (b8 l.length :: l) now).2 = _
    rw [kind_single h1 h7]
    exact ⟨drop_at _ _, rfl⟩
/-- one frame lost or late -/
def LossInv (l : List UInt8) (k : Nat) (late : Bool) (i : Nat) (s : St) (now : Int) : Prop :=
  ((i ≤ k ∨ (late = true ∧ k = 0)) ∧ s.G 3 = want l i 0 ∧ now = 0) ∨
  ((k < i ∧ ¬(late = true ∧ k = 0)) ∧ (s.G 3 = none ∨ (late = false ∧ i = k + 1 ∧ s.G 3 = want l k 0)) ∧ now = if late then 11 else 0)
theorem kind_err {s : St} {l : List UInt8} {i : Nat} {now : Int} (hs : s.G 3 = none) : kindS s 3 (frN l i) now = errS s := by rw [kind_next, further_none hs]
theorem loss_skip {l : List UInt8} {k : Nat} {s : St} {now : Int} (h : LossInv l k false k s now) : LossInv l k false (k + 1) s now := by
  rcases h with ⟨h1, h2, h3⟩ | ⟨⟨h1, _⟩, _⟩
  · exact .inr ⟨⟨by omega, by simp⟩, .inr ⟨rfl, rfl, h2⟩, by simpa using h3⟩
  · omega
theorem loss_step {l : List UInt8} {k i : Nat} {late : Bool} {s : St} {now now' : Int} (h9 : 9 ≤ l.length) (hm : l.length ≤ 600) (hi : i < (splitS l).length) (hk : k < (splitS l).length) (h : LossInv l k late i s now)
    (hne : ¬ (i = k ∧ late = false)) (hn : now' = if i = k ∧ late = true ∧ 0 < i then now + 11 else now) :
    LossInv l k late (i + 1) (takeS s 3 ((splitS l).getD i []) now').1 now' ∧ ((late = false ∨ 0 < k) → (takeS s 3 ((splitS l).getD i []) now').2 = none) := by
  have hlen := split_len l
  rw [if_neg (by omega)] at hlen
  have h8 : 8 ≤ l.length := by omega
  rcases h with ⟨h1, h2, h3⟩ | ⟨⟨h1, h4⟩, h2, h3⟩
  · subst h3
    by_cases hb : i = k ∧ late = true ∧ 0 < i
    · rw [if_pos hb] at hn
      obtain ⟨rfl, rfl, hpos⟩ := hb
      obtain ⟨j, rfl⟩ : ∃ j, i = j + 1 := ⟨i - 1, by omega⟩
      rw [want_mid 0 hpos hi] at h2
      have hst : staleB (partM l (j + 1 - 1) 0).last now' = true := by
        subst hn
        show staleB 0 (0 + 11) = true
        decide
      have hg : (lateS s 3 now').G 3 = none := by rw [late_drop h2 hst, drop_at]
      unfold takeS
      rw [split_getS h8 (by omega), kind_err hg]
      exact ⟨.inr ⟨⟨by omega, by omega⟩, .inl hg, by simpa using hn⟩, fun _ => rfl⟩
    · rw [if_neg hb] at hn
      subst hn
      rw [feed (by omega) hm hi h2 (by decide)]
      refine ⟨.inl ⟨?_, ?_, rfl⟩, ?_⟩
      · rcases h1 with h1 | h1
        · rcases Nat.lt_or_ge i k with h | h
          · exact .inl (by omega)
          · obtain rfl : i = k := by omega
            cases late with
            | false => exact absurd ⟨rfl, rfl⟩ hne
            | true => exact .inr ⟨rfl, by simp at hb; omega⟩
        · exact .inr h1
      · rw [upd_G, if_pos rfl]
      · intro h5
        show (if i + 1 = (splitS l).length then some l else none) = none
        rw [if_neg]
        rcases h1 with h1 | h1
        · rcases Nat.lt_or_ge i k with h | h
          · omega
          · obtain rfl : i = k := by omega
            cases late with
            | false => exact absurd ⟨rfl, rfl⟩ hne
            | true => simp at hb h5; omega
        · obtain ⟨rfl, rfl⟩ := h1
          simp at h5
  · rw [if_neg (by omega)] at hn
    subst hn
    obtain ⟨j, rfl⟩ : ∃ j, i = j + 1 := ⟨i - 1, by omega⟩
    unfold takeS
    rw [split_getS h8 (by omega)]
    rcases h2 with h2 | ⟨rfl, h5, h2⟩
    · rw [late_none _ h2, kind_err h2]
      exact ⟨.inr ⟨⟨by omega, h4⟩, .inl h2, h3⟩, fun _ => rfl⟩
    · obtain rfl : j = k := by omega
      cases hg : s.G 3 with
      | none =>
        rw [late_none _ hg, kind_err hg]
        exact ⟨.inr ⟨⟨by omega, h4⟩, .inl hg, h3⟩, fun _ => rfl⟩
      | some v =>
        rw [h2] at hg
        have hj : 0 < j := by
          rcases Nat.eq_zero_or_pos j with h | h
          · subst h; rw [want_zero] at hg; cases hg
          · exact h
        rw [want_mid 0 hj hk] at hg
        cases hg
        rw [want_mid 0 hj hk] at h2
        have hst : staleB (partM l (j - 1) 0).last now' = false := by
          simp at h3
          subst h3
          show staleB 0 0 = false
          decide
        rw [late_some h2 hst, kind_next, further_wrong h2 (by show (j + 1) % 16 ≠ (j - 1 + 1) % 16; omega)]
        exact ⟨.inr ⟨⟨by omega, h4⟩, .inl (drop_at _ _), h3⟩, fun _ => rfl⟩
end Go.Proofs.Ytmeeopfdplaiaaa
