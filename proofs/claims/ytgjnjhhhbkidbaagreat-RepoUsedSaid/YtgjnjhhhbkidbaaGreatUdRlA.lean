/- RlA -/
import Derived.Test.YtgjnjhhhbkidbaaGreatUdBase
import Derived.Lib.Overlaps
import Derived.Lib.AppendZerosOnto
open Go Go.RowKit
namespace Go.Proofs.YtgjnjhhhbkidbaaGreat
theorem own_capL {w : World} {e : TypeId} {s n c : Nat} {A : Option Addr} {xs : List Value} (h : Own w e s A n c xs) : n ≤ c := by
  rcases h.form with ⟨_, h1, h2, _⟩ | ⟨_, _, _, _, h1, _⟩ <;> omega
section
variable {P : Program} {ops : Array Oper} {rest : List Oper} {a : Act} {w : World} {Q : Exit → Act → World → Prop} {dst : Option Tmp} {ty : TypeId} {pos : String} {after : Array Edge}
end
end Go.Proofs.YtgjnjhhhbkidbaaGreat
