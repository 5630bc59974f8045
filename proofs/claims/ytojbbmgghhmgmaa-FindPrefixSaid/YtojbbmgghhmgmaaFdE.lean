/- ForEcu of both. -/
import Derived.Test.YtojbbmgghhmgmaaFdR
import Derived.Laws.Closers25
open Go Go.RowKit
namespace Go.Proofs.Ytojbbmgghhmgmaa
theorem empty_iff (s : ByteArray) : s.toList.isEmpty = decide (s = noS) := by
  have h := decide_eq_emptyBytes s
  rw [← h]
  rfl
theorem strB (a b : ByteArray) : (a.toList == b.toList) = decide (a = b) := by
  rw [Bool.eq_iff_iff]
  simp only [beq_iff_eq, decide_eq_true_eq, ByteArray.toList_eq]
  exact ⟨bytes_inj, fun h => by rw [h]⟩
def ecuF (L : List TG) (ecu : ByteArray) : Option TG := L.find? (fun g => decide (g.ecu = ecu))
def ecuS (ts : List TS) (ecu : ByteArray) : Option TG := if ts.length = 0 ∨ ecu = noS then none else ecuF (gt ts 0).L ecu
def orZ (o : Option TG) : TG := o.getD zTG
theorem ecuF_drop (L : List TG) (ecu : ByteArray) (k : Nat) (hk : k < L.length) : ecuF (L.drop k) ecu = if (gt L k).ecu = ecu then some (gt L k) else ecuF (L.drop (k + 1)) ecu := by
  rw [List.drop_eq_getElem_cons hk]
  unfold ecuF
  rw [List.find?_cons]
  have e : gt L k = L[k] := by simp [gt, List.getD_eq_getElem?_getD, hk]
  rw [e]
  by_cases h : L[k].ecu = ecu
  · simp [h]
  · simp [h]
end Go.Proofs.Ytojbbmgghhmgmaa
