/- Frames opened, wherever they lie. -/
import Derived.Test.YthoipeamdolfgaaOpenP
import Derived.Test.YthoipeamdolfgaaAuto7
import Derived.Test.YthoipeamdolfgaaProg
open Go Go.RowKit Go.WideShapes Go.ChangeShapes Go.Deep
namespace Go.Proofs.Ythoipeamdolfgaa
instance rowU8 : RowC UInt8 := ⟨1, fun b => [u8v b], fun _ => rfl, fun b u hu => by
    rw [List.mem_singleton] at hu
    subst hu
    rfl, 0⟩
theorem cells_u8 : ∀ l : List UInt8, cellsOf l = bs l
  | [] => rfl
  | b :: l => by
    show u8v b :: cellsOf l = u8v b :: bs l
    rw [cells_u8 l]
theorem cFr : Try.prog.cellsOf 45 = 2 := by kernel_rfl
theorem cIn : Try.prog.cellsOf 3 = 1 := by kernel_rfl
theorem cBs : Try.prog.cellsOf 31 = 1 := by kernel_rfl
theorem cU8 : Try.prog.cellsOf 5 = 1 := by kernel_rfl
theorem reads_u8 {w : World} : ReadsP Try.prog w UInt8 (fun _ => True) 5 := fun H enc spare held fuel cs x hf => by
  obtain ⟨z, hz, _, hw⟩ := DataW.trod_int Try.underlying5 hf
  obtain ⟨y, rfl⟩ := u8_of hw
  exact ⟨y, hz, trivial⟩
theorem trod_fieldsA {H : Type} {enc : TypeId × Value → H} {P : Program} {w : World} {spare : Nat → Bool} {held : Bool} {fuel : Nat} {t : TypeId} {cs : List Value} {x : DataW H × List MemPlace} {fs : Array Field} (ht : P.underlying t = some (.struct fs)) (hf : DataW.trod enc P w 0 spare held fuel t cs = some x) :
    ∃ m, cs.length = P.cellsOf t ∧ ∀ (i : Nat) (f : Field), nth fs.toList i = some f → ∃ y, DataW.trod enc P w 0 spare held m f.type ((cs.drop f.offset).take (P.cellsOf f.type)) = some y := by
  obtain ⟨xs, m, _, hx, hl, hxl, hel⟩ := DataW.trod_struct ht hf
  refine ⟨m, hl, fun i f hi => ?_⟩
  rw [← nth_get] at hi
  have hi' : fs[i]? = some f := by simpa using hi
  have hlt : i < xs.length := by
    rw [hxl]
    exact (Array.getElem?_eq_some_iff.1 hi').1
  exact ⟨xs[i], by rw [hel i f hi', List.getElem?_eq_getElem hlt]⟩
/-- a frame's ID, and its bytes -/
structure FrIn (w : World) (id : Int) (A : Option Addr) (n c : Nat) (d : List UInt8) : Prop where
  rd : Rd w A (bs d)
  len : d.length = n
  cap : n ≤ c
  max : n ≤ maxLen
  wf : (Lit.int .i64 id).wf = true
theorem trod_frame {H : Type} {enc : TypeId × Value → H} {w : World} {spare : Nat → Bool} {held : Bool} {fuel : Nat} {cs : List Value} {x : DataW H × List MemPlace} (hf : DataW.trod enc Try.prog w 0 spare held fuel 45 cs = some x) :
    ∃ id A n c d, cs = [.int .i64 id, .slice A n c] ∧ FrIn w id A n c d := by
  obtain ⟨m0, hl, E⟩ := trod_fieldsA Try.underlying45 hf
  obtain ⟨y0, e0⟩ := E 0 _ rfl
  obtain ⟨y1, e1⟩ := E 1 _ rfl
  dsimp only at e0 e1
  rw [cIn] at e0
  rw [cBs] at e1
  rw [cFr] at hl
  obtain ⟨z0, g0, _, hz0⟩ := DataW.trod_int Try.underlying3 e0
  obtain ⟨A, n, c, l, g1, l1, m1, r1, c1, _, _⟩ := rows_trodP (α := UInt8) Try.underlying31 cU8 (by decide) reads_u8 e1
  refine ⟨z0, A, n, c, l, ?_, ⟨by rw [← cells_u8]; exact r1, l1, c1, m1, hz0⟩⟩
  have q : cs = cs.drop 0 := rfl
  rw [q, seg cs 0 1 1 rfl, seg_last cs 1 1 hl, g0, g1]
  rfl
end Go.Proofs.Ythoipeamdolfgaa
