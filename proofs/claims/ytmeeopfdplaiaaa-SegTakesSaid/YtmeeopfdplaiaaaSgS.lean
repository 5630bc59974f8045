/- Messages in frames, in mathematics: how one is split, what a frame makes of the messages that are open. -/
import Derived.Test.YtmeeopfdplaiaaaAuto7
open Go Go.RowKit
namespace Go.Proofs.Ytmeeopfdplaiaaa
structure Msg where
  b : List UInt8
  whole : Nat
  next : Nat
  last : Int
structure St where
  G : Int → Option Msg
  m : Nat
  N : Nat
def st0 : St := ⟨fun _ => none, 0, 0⟩
def St.err (s : St) : St := ⟨s.G, s.m, s.N + 1⟩
def St.del (s : St) (k : Int) : St := ⟨fun x => if x = k then none else s.G x, if (s.G k).isSome then s.m - 1 else s.m, s.N⟩
def St.put (s : St) (k : Int) (v : Msg) : St := ⟨fun x => if x = k then some v else s.G x, if (s.G k).isSome then s.m else s.m + 1, s.N⟩
def St.drop (s : St) (k : Int) : St := if (s.G k).isSome then (s.del k).err else s
def staleB (last now : Int) : Bool := decide (now < last) || decide (10 < now - last)
abbrev Tk := St × Option (List UInt8)
def errS (s : St) : Tk := (s.err, none)
def singleS (s : St) (id : Int) (n : Nat) (part : List UInt8) : Tk := if n = 0 ∨ n ≠ part.length then errS s else (s.drop id, some part)
def firstS (s : St) (id : Int) (high : Nat) (rest : List UInt8) (now : Int) : Tk :=
  if rest.length ≠ 7 then errS s else
  if high * 256 + (bget rest 0).toNat ≤ 7 ∨ 600 < high * 256 + (bget rest 0).toNat then errS s else
  ((s.drop id).put id ⟨rest.drop 1, high * 256 + (bget rest 0).toNat, 1, now⟩, none)
def furtherS (s : St) (id : Int) (number : Nat) (part : List UInt8) (now : Int) : Tk :=
  match s.G id with
  | none => errS s
  | some m =>
    if number ≠ m.next ∨ part.length ≠ min (m.whole - m.b.length) 7 then (s.drop id, none) else
    if (m.b ++ part).length = m.whole then (s.del id, some (m.b ++ part)) else
    (s.put id ⟨m.b ++ part, m.whole, (m.next + 1) % 16, now⟩, none)
def lateS (s : St) (id now : Int) : St := match s.G id with
  | some m => if staleB m.last now then s.drop id else s
  | none => s
def kindS (s : St) (id : Int) (d : List UInt8) (now : Int) : Tk :=
  if d.length = 0 then errS s else
  if (bget d 0).toNat / 16 = 0 then singleS s id ((bget d 0).toNat % 16) (d.drop 1) else
  if (bget d 0).toNat / 16 = 1 then firstS s id ((bget d 0).toNat % 16) (d.drop 1) now else
  if (bget d 0).toNat / 16 = 2 then furtherS s id ((bget d 0).toNat % 16) (d.drop 1) now else errS s
def takeS (s : St) (id : Int) (d : List UInt8) (now : Int) : Tk := kindS (lateS s id now) id d now
/-- what is so of all that are open -/
structure St.Ok (s : St) : Prop where
  ok : ∀ k v, s.G k = some v → v.b.length < v.whole ∧ v.whole ≤ 600 ∧ v.next < 16 ∧ -9223372036854775808 ≤ v.last ∧ v.last ≤ 9223372036854775807
/-- a message's frames -/
def frN (l : List UInt8) (i : Nat) : List UInt8 := b8 (32 + ((i + 1 : Nat) % 16 : Nat)) :: (l.drop (6 + 7 * i)).take 7
def frF (l : List UInt8) : List UInt8 := b8 (16 + (l.length / 256 : Nat)) :: b8 l.length :: l.take 6
def cntN (n : Nat) : Nat := (n - 6 + 6) / 7
def splitS (l : List UInt8) : List (List UInt8) :=
  if l.length ≤ 7 then [b8 l.length :: l] else frF l :: (List.range (cntN l.length)).map (frN l)
theorem Ok.st0 : st0.Ok := ⟨fun k v h => by cases h⟩
theorem St.Ok.err {s : St} (h : s.Ok) : s.err.Ok := ⟨h.ok⟩
theorem St.Ok.del {s : St} (h : s.Ok) (k : Int) : (s.del k).Ok := ⟨fun x v hx => by
  simp only [St.del] at hx
  split at hx
  · cases hx
  · exact h.ok x v hx⟩
theorem St.Ok.put {s : St} (h : s.Ok) (k : Int) (u : Msg) (hu : u.b.length < u.whole ∧ u.whole ≤ 600 ∧ u.next < 16 ∧ -9223372036854775808 ≤ u.last ∧ u.last ≤ 9223372036854775807) : (s.put k u).Ok := ⟨fun x v hx => by
  simp only [St.put] at hx
  split at hx
  · cases hx; exact hu
  · exact h.ok x v hx⟩
theorem St.Ok.drop {s : St} (h : s.Ok) (k : Int) : (s.drop k).Ok := by
  unfold St.drop
  split
  · exact (h.del k).err
  · exact h
theorem drop_none {s : St} {k : Int} (h : s.G k = none) : s.drop k = s := by simp [St.drop, h]
theorem drop_some {s : St} {k : Int} {v : Msg} (h : s.G k = some v) : s.drop k = (s.del k).err := by simp [St.drop, h]
theorem drop_G (s : St) (k x : Int) : (s.drop k).G x = if x = k then none else s.G x := by
  cases h : s.G k with
  | none => rw [drop_none h]; split <;> simp_all
  | some v => rw [drop_some h]; rfl
theorem drop_m (s : St) (k : Int) : (s.drop k).m ≤ s.m := by
  cases h : s.G k with
  | none => rw [drop_none h]; exact Nat.le_refl _
  | some v =>
    rw [drop_some h]
    show (if (s.G k).isSome then s.m - 1 else s.m) ≤ s.m
    split <;> omega
theorem drop_N (s : St) (k : Int) : (s.drop k).N ≤ s.N + 1 := by
  cases h : s.G k with
  | none => rw [drop_none h]; omega
  | some v => rw [drop_some h]; exact Nat.le_refl _
theorem drop_at (s : St) (k : Int) : (s.drop k).G k = none := by rw [drop_G, if_pos rfl]
end Go.Proofs.Ytmeeopfdplaiaaa
