/- What the table says of the types that are met. -/
import Derived.Test.YtmijlojjkgeplaaBase
import Derived.Test.YtmijlojjkgeplaaDig
import Derived.Test.YtmijlojjkgeplaaDgRS
open Go Go.RowKit
namespace Go.Proofs.Ytmijlojjkgeplaa
instance : ZeroT Try.prog 23 (u8s zeroH.l) := ⟨.agg (u8s zeroH.l), fun _ => by kernel_rfl, rfl⟩
instance : ZeroT Try.prog 191 (u8s (nots 35)) := ⟨.agg (u8s (nots 35)), fun _ => by kernel_rfl, rfl⟩
instance : RowT Try.prog 23 32 := ⟨by kernel_rfl, _, Try.underlying23, rfl⟩
instance : RowT Try.prog 191 35 := ⟨by kernel_rfl, _, Try.underlying191, rfl⟩
instance : CellT Try.prog 5 := ⟨fun _ => by kernel_rfl, fun _ => by kernel_rfl⟩
instance : CellT Try.prog 3 := ⟨fun _ => by kernel_rfl, fun _ => by kernel_rfl⟩
instance : ElemT Try.prog 39 5 1 1 (.int .u8 0) := ⟨elemB⟩
instance : ElemT Try.prog 31 23 32 32 (.agg (u8s zeroH.l)) := ⟨⟨Try.underlying31, by kernel_rfl, rfl, by decide⟩⟩
@[simp] theorem nots_len_ (n : Nat) : (nots n).length = n := nots_len n
/-- one digest as a slice of its own -/
theorem run_oneH (hh : H32) (w : World) : (Instr.buildSlice 31 1 #[(0, .agg (u8s hh.l))]).run Try.prog w = .ok (.slice (some ⟨w.heap.size, 0, none⟩) 1 1) (w.alloc (.cells (u8s hh.l) 23)) := by
  have hs := hh.size
  have hz : ∀ w, (zeroValue 23).run Try.prog w = .ok (.agg (u8s (nots 32))) w := fun _ => by kernel_rfl
  have hi : ∀ w, (sizeOf 23).run Try.prog w = .ok 32 w := fun _ => by kernel_rfl
  unfold Instr.buildSlice
  simp only [Sem.run_bind, run_underlying Try.underlying31, Result.andThen_ok, hi]
  have hf : Instr.fill (fun i => some (i * 32, 32)) ((Array.range (1 * 32)).map ((u8s (nots 32))[· % (u8s (nots 32)).size]!)) [(0, Value.agg (u8s hh.l))] = some (u8s hh.l) := by
    rw [fill_step _ _ 0 (.agg (u8s hh.l)) [] (off := 0) (size := 32) rfl hs (by simp), lay_whole _ _ (by show (u8s hh.l).size = _; rw [hs]; simp)]
    rfl
  simp [hz, Value.cells, hf, newRow]
/-- the digest of bytes -/
def shaH (xs : List UInt8) : H32 := ⟨sha xs, sha_len xs⟩
theorem sum_calls {A : Option Addr} {n c : Nat} {xs : List UInt8} {w : World} [h : HR w A (bs xs)] (hn : xs.length = n) (hc : n ≤ c) (hmax : n ≤ 1000000000) :
    Calls Try.prog 97 #[.slice A n c] w fun e w' => e = .returned (.agg (u8s (shaH xs).l)) ∧ Step nowhere w w' :=
  (dSum_calls A n c xs w h.out hn hc hmax).mono fun _ _ ⟨he, hc⟩ => ⟨he, ⟨hc.out⟩⟩
theorem rsum_calls {A : Option Addr} {n c : Nat} {xs : List UInt8} {w : World} [h : HR w A (bs xs)] (hn : xs.length = n) (hmax : n ≤ 1000000000) :
    Calls Try.prog 94 #[.slice A n c] w fun e w' => e = .returned (.agg (u8s (shaH xs).l)) ∧ Step nowhere w w' :=
  (dRefSum_calls A n c xs w h.out hn hmax).mono fun _ _ ⟨he, hc⟩ => ⟨he, ⟨hc.out⟩⟩
theorem sumW_calls {A : Option Addr} {n c : Nat} {xs : List UInt8} {w : World} [h : HR w A (bs xs)] (hn : xs.length = n) (hc : n ≤ c) (hmax : n ≤ 140737488351232) :
    Calls Try.prog 97 #[.slice A n c] w fun e w' => e = .returned (.agg (u8s (shaH xs).l)) ∧ Step nowhere w w' :=
  (dSumW_calls A n c xs w h.out hn hc hmax).mono fun _ _ ⟨he, hc⟩ => ⟨he, ⟨hc.out⟩⟩
theorem rsumW_calls {A : Option Addr} {n c : Nat} {xs : List UInt8} {w : World} [h : HR w A (bs xs)] (hn : xs.length = n) (hmax : n ≤ 140737488351232) :
    Calls Try.prog 94 #[.slice A n c] w fun e w' => e = .returned (.agg (u8s (shaH xs).l)) ∧ Step nowhere w w' :=
  (dRefSumW_calls A n c xs w h.out hn hmax).mono fun _ _ ⟨he, hc⟩ => ⟨he, ⟨hc.out⟩⟩
end Go.Proofs.Ytmijlojjkgeplaa
