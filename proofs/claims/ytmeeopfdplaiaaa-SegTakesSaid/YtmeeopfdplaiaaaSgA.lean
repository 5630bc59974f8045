/- What frames of a message make of the messages that are open. -/
import Derived.Test.YtmeeopfdplaiaaaSgS
open Go Go.RowKit
namespace Go.Proofs.Ytmeeopfdplaiaaa
theorem b8_nat (n : Nat) : (b8 (n : Int)).toNat = n % 256 := by
  unfold b8
  rw [UInt8.toNat_ofNat']
  omega
theorem late_none {s : St} {id : Int} (now : Int) (h : s.G id = none) : lateS s id now = s := by simp [lateS, h]
theorem late_some {s : St} {id : Int} {now : Int} {v : Msg} (h : s.G id = some v) (hv : staleB v.last now = false) : lateS s id now = s := by simp [lateS, h, hv]
theorem late_drop {s : St} {id : Int} {now : Int} {v : Msg} (h : s.G id = some v) (hv : staleB v.last now = true) : lateS s id now = s.drop id := by simp [lateS, h, hv]
theorem late_G (s : St) (id now : Int) : (lateS s id now).G id = none ∨ ((lateS s id now) = s ∧ ∃ v, s.G id = some v ∧ staleB v.last now = false) := by
  cases h : s.G id with
  | none => rw [late_none now h]; exact .inl h
  | some v =>
    cases hv : staleB v.last now with
    | true => rw [late_drop h hv]; exact .inl (drop_at s id)
    | false => exact .inr ⟨late_some h hv, v, rfl, hv⟩
theorem frF_len {l : List UInt8} (h : 8 ≤ l.length) : (frF l).length = 8 := by simp [frF]; omega
theorem frN_len (l : List UInt8) (i : Nat) : (frN l i).length = 1 + min 7 (l.length - (6 + 7 * i)) := by simp [frN]; omega
/-- a whole message in one frame -/
theorem kind_single {s : St} {id now : Int} {l : List UInt8} (h1 : 1 ≤ l.length) (h7 : l.length ≤ 7) : kindS s id (b8 l.length :: l) now = (s.drop id, some l) := by
  have hb : (bget (b8 (l.length : Int) :: l) 0).toNat = l.length := by
    show (b8 (l.length : Int)).toNat = _
    rw [b8_nat]; omega
  unfold kindS
  rw [hb, if_neg (by simp), if_pos (by omega)]
  unfold singleS
  rw [if_neg (by simp; omega)]
  rfl
/-- the first of several -/
theorem kind_first {s : St} {id now : Int} {l : List UInt8} (h8 : 8 ≤ l.length) (hm : l.length ≤ 600) : kindS s id (frF l) now = ((s.drop id).put id ⟨l.take 6, l.length, 1, now⟩, none) := by
  have hb : (bget (frF l) 0).toNat = 16 + l.length / 256 := by
    show (b8 (16 + ((l.length / 256 : Nat) : Int))).toNat = _
    rw [show (16 + ((l.length / 256 : Nat) : Int)) = ((16 + l.length / 256 : Nat) : Int) by omega, b8_nat]; omega
  have hd : (frF l).drop 1 = b8 l.length :: l.take 6 := rfl
  have hw : (16 + l.length / 256) % 16 * 256 + (bget (b8 (l.length : Int) :: l.take 6) 0).toNat = l.length := by
    show _ + (b8 (l.length : Int)).toNat = _
    rw [b8_nat]; omega
  unfold kindS
  rw [hb, frF_len h8, if_neg (by decide), if_neg (by omega), if_pos (by omega), hd]
  unfold firstS
  rw [hw, if_neg (by simp; omega), if_neg (by omega)]
  rfl
theorem frN_head (l : List UInt8) (i : Nat) : (bget (frN l i) 0).toNat = 32 + (i + 1) % 16 := by
  show (b8 (32 + (((i + 1) % 16 : Nat) : Int))).toNat = _
  rw [show (32 + (((i + 1) % 16 : Nat) : Int)) = ((32 + (i + 1) % 16 : Nat) : Int) by omega, b8_nat]; omega
theorem kind_next {s : St} {id now : Int} (l : List UInt8) (i : Nat) : kindS s id (frN l i) now = furtherS s id ((i + 1) % 16) ((l.drop (6 + 7 * i)).take 7) now := by
  unfold kindS
  rw [frN_head, frN_len, if_neg (by omega), if_neg (by omega), if_neg (by omega), if_pos (by omega), show (32 + (i + 1) % 16) % 16 = (i + 1) % 16 by omega]
  rfl
/-- how far a message has come -/
def partM (l : List UInt8) (i : Nat) (last : Int) : Msg := ⟨l.take (6 + 7 * i), l.length, (i + 1) % 16, last⟩
theorem further_part {s : St} {id now last : Int} {l : List UInt8} {i : Nat} (hs : s.G id = some (partM l i last)) (hi : 6 + 7 * i < l.length) :
    furtherS s id ((i + 1) % 16) ((l.drop (6 + 7 * i)).take 7) now = if l.length ≤ 6 + 7 * (i + 1) then (s.del id, some l) else (s.put id (partM l (i + 1) now), none) := by
  unfold furtherS
  rw [hs]
  have e1 : l.take (6 + 7 * i) ++ (l.drop (6 + 7 * i)).take 7 = l.take (6 + 7 * (i + 1)) := by
    rw [show 6 + 7 * (i + 1) = (6 + 7 * i) + 7 by omega]
    exact List.take_add.symm
  show (if (i + 1) % 16 ≠ (i + 1) % 16 ∨ ((l.drop (6 + 7 * i)).take 7).length ≠ min (l.length - (l.take (6 + 7 * i)).length) 7 then _ else
    if (l.take (6 + 7 * i) ++ (l.drop (6 + 7 * i)).take 7).length = l.length then (s.del id, some (l.take (6 + 7 * i) ++ (l.drop (6 + 7 * i)).take 7)) else
    (s.put id ⟨l.take (6 + 7 * i) ++ (l.drop (6 + 7 * i)).take 7, l.length, ((i + 1) % 16 + 1) % 16, now⟩, none)) = _
  rw [if_neg (by simp; omega), e1]
  split
  · rename_i h
    rw [List.length_take] at h
    rw [if_pos (by omega), List.take_of_length_le (by omega)]
  · rename_i h
    rw [List.length_take] at h
    rw [if_neg (by omega), partM, show (i + 1 + 1) % 16 = ((i + 1) % 16 + 1) % 16 by omega]
/-- one that is not its turn -/
theorem further_wrong {s : St} {id now : Int} {v : Msg} {n : Nat} {part : List UInt8} (hs : s.G id = some v) (hn : n ≠ v.next) : furtherS s id n part now = (s.drop id, none) := by
  unfold furtherS
  rw [hs]
  simp only []
  rw [if_pos (.inl hn)]
theorem further_none {s : St} {id now : Int} {n : Nat} {part : List UInt8} (hs : s.G id = none) : furtherS s id n part now = errS s := by
  unfold furtherS
  rw [hs]
theorem cnt_iff {n i : Nat} (h : 8 ≤ n) : i < cntN n ↔ 6 + 7 * i < n := by unfold cntN; omega
theorem split_len (l : List UInt8) : (splitS l).length = if l.length ≤ 7 then 1 else 1 + cntN l.length := by
  unfold splitS
  split <;> simp; omega
theorem split_get0 {l : List UInt8} (h : 8 ≤ l.length) : (splitS l).getD 0 [] = frF l := by
  unfold splitS
  rw [if_neg (by omega)]
  rfl
theorem split_getS {l : List UInt8} (h : 8 ≤ l.length) {i : Nat} (hi : i < cntN l.length) : (splitS l).getD (i + 1) [] = frN l i := by
  unfold splitS
  rw [if_neg (by omega)]
  simp [List.getD_eq_getElem?_getD, hi]
theorem split_one {l : List UInt8} (h : l.length ≤ 7) : splitS l = [b8 l.length :: l] := if_pos h
end Go.Proofs.Ytmeeopfdplaiaaa
