/- A law's arguments, opened: an array of bytes by value (api.Hash). -/
import Derived.Test.YthoipeamdolfgaaOpenB
import Derived.Test.YthoipeamdolfgaaBase
open Go Go.RowKit Go.WideShapes Go.ChangeShapes Go.Deep
namespace Go.Proofs.Ythoipeamdolfgaa
def byteOf : Value → UInt8
  | .int _ z => UInt8.ofNat z.toNat
  | _ => 0
theorem bs_byteOf (l : List Value) (h : ∀ v ∈ l, ∃ z : Int, v = .int .u8 z ∧ 0 ≤ z ∧ z < 256) : bs (l.map byteOf) = l := by
  induction l with
  | nil => rfl
  | cons v l ih =>
    obtain ⟨z, rfl, h1, h2⟩ := h v (by simp)
    have := ih (fun v hv => h v (by simp [hv]))
    unfold bs at *
    rw [List.map_cons, List.map_cons, this]
    congr 1
    simp only [byteOf, u8v]
    congr 1
    simp
    omega
theorem open_hash {H : Type} {enc : TypeId × Value → H} {P : Program} {w : World} {r : Reach} {b0 n : Nat} {t e : TypeId} {v : Value} {d : DataW H} {ps : List MemPlace} (ht : P.underlying t = some (.array n e)) (he : P.underlying e = some (.int .u8)) (ce : P.cellsOf e = 1) (ct : P.cellsOf t = n)
    (hval : Value.okWide P w r b0 t v) (h : DataW.Trod enc P w 0 (fun _ => true) true t v d ps) :
    ∃ hs : List UInt8, v = .agg (u8s hs) ∧ hs.length = n := by
  simp only [Value.okWide, ht] at hval
  obtain ⟨cs, rfl, h2, _⟩ := hval
  obtain ⟨fuel, hf⟩ := h
  obtain ⟨xs, m, rfl, _, hl, hxl, hel⟩ := DataW.trod_array ht hf
  have hcs : (Value.agg cs).cells.toList = cs.toList := rfl
  rw [hcs] at hl hel
  rw [ct] at h2 hl
  have hb : ∀ v ∈ cs.toList, ∃ z : Int, v = .int .u8 z ∧ 0 ≤ z ∧ z < 256 := by
    intro v hv
    obtain ⟨i, hi, rfl⟩ := List.mem_iff_getElem.1 hv
    have h1 := hel i (by omega)
    rw [ce, Nat.mul_one, List.getElem?_eq_getElem (by omega)] at h1
    obtain ⟨z, h3, _, h4⟩ := DataW.trod_int he h1
    have h5 : (cs.toList.drop i).take 1 = [cs.toList[i]] := by
      rw [List.drop_eq_getElem_cons hi]
      rfl
    rw [h5] at h3
    injection h3 with h3 _
    obtain ⟨h6, h7⟩ := wf_u8 h4
    exact ⟨z, h3, h6, h7⟩
  refine ⟨cs.toList.map byteOf, ?_, by simpa using h2⟩
  congr 1
  unfold u8s
  rw [bs_byteOf _ hb]
end Go.Proofs.Ythoipeamdolfgaa
