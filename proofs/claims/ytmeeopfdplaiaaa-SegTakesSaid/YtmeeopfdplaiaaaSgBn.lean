/- How far the counts may rise. -/
import Derived.Test.YtmeeopfdplaiaaaSgB
open Go Go.RowKit
namespace Go.Proofs.Ytmeeopfdplaiaaa
theorem drop_N1 (s : St) (k : Int) : (s.drop k).N ≤ s.N + 1 := drop_N s k
theorem kind_N (s : St) (id : Int) (d : List UInt8) (now : Int) : (kindS s id d now).1.N ≤ s.N + 1 := by
  have hd := drop_N s id
  have he : (errS s).1.N = s.N + 1 := rfl
  unfold kindS singleS firstS furtherS
  split
  · omega
  split
  · split
    · omega
    · exact hd
  split
  · split
    · omega
    split
    · omega
    · exact hd
  split
  · split
    · omega
    split
    · exact hd
    split
    · show s.N ≤ s.N + 1
      omega
    · show s.N ≤ s.N + 1
      omega
  · omega
theorem kind_m (s : St) (id : Int) (d : List UInt8) (now : Int) : (kindS s id d now).1.m ≤ s.m + 1 := by
  have hd := drop_m s id
  have he : (errS s).1.m = s.m := rfl
  have hp : ∀ (t : St) (v : Msg), (t.put id v).m ≤ t.m + 1 := fun t v => by
    show (if (t.G id).isSome then t.m else t.m + 1) ≤ _
    split <;> omega
  have hde : (s.del id).m ≤ s.m := by
    show (if (s.G id).isSome then s.m - 1 else s.m) ≤ _
    split <;> omega
  unfold kindS singleS firstS furtherS
  split
  · omega
  split
  · split
    · omega
    · show (s.drop id).m ≤ _
      omega
  split
  · split
    · omega
    split
    · omega
    · have := hp (s.drop id) ⟨(List.drop 1 d).drop 1, (bget d 0).toNat % 16 * 256 + (bget (List.drop 1 d) 0).toNat, 1, now⟩
      show ((s.drop id).put id _).m ≤ _
      omega
  split
  · split
    · omega
    split
    · show (s.drop id).m ≤ _
      omega
    split
    · show (s.del id).m ≤ _
      omega
    · exact hp s _
  · omega
theorem late_m (s : St) (id now : Int) : (lateS s id now).m ≤ s.m := by
  unfold lateS
  split
  · split
    · exact drop_m s id
    · exact Nat.le_refl _
  · exact Nat.le_refl _
theorem late_N (s : St) (id now : Int) : (lateS s id now).N ≤ s.N + 1 := by
  unfold lateS
  split
  · split
    · exact drop_N s id
    · omega
  · omega
theorem take_N (s : St) (id : Int) (d : List UInt8) (now : Int) : (takeS s id d now).1.N ≤ s.N + 2 := by
  have := kind_N (lateS s id now) id d now
  have := late_N s id now
  unfold takeS
  omega
theorem take_m (s : St) (id : Int) (d : List UInt8) (now : Int) : (takeS s id d now).1.m ≤ s.m + 1 := by
  have := kind_m (lateS s id now) id d now
  have := late_m s id now
  unfold takeS
  omega
end Go.Proofs.Ytmeeopfdplaiaaa
