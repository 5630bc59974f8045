/- ChC -/
import Derived.Test.YthcleccofccbdaaGreatTbChB
import Derived.Test.YthcleccofccbdaaGreatTbPlain
open Go Go.RowKit
namespace Go.Proofs.YthcleccofccbdaaGreat
theorem HB.envs {w : World} {z : Nat} {t : TypeId} {L : List EnvR} (h : HB w z t (cellsOf L).toArray) : HR w (some ⟨z, 0, none⟩) (cellsOf L) := ⟨by
  have h1 := h.rdL
  simpa using h1⟩
theorem run_env1 (E : EnvR) (w : World) : (Instr.buildSlice 75 1 #[(0, .agg (RowC.enc E).toArray)]).run Tryz.prog w = .ok (.slice (some ⟨w.heap.size, 0, none⟩) 1 1) (w.alloc (.cells (cellsOf [E]).toArray 133)) := by kernel_rfl
theorem NextQ.eq {r : RootM} {m : List UInt8} {l : List MarkR} {v1 x1 e1 v2 x2 e2 : Int} {K1 K2 : List KR} (h1 : (v1, x1, K1.map KR.m, e1) = nextM r m l) (h2 : (v2, x2, K2.map KR.m, e2) = nextM r m l) : v1 = v2 ∧ x1 = x2 ∧ K1.map KR.m = K2.map KR.m ∧ e1 = e2 := by
  have h := h1.trans h2.symm
  obtain ⟨a, h⟩ := Prod.mk.inj h
  obtain ⟨b, h⟩ := Prod.mk.inj h
  obtain ⟨c, d⟩ := Prod.mk.inj h
  exact ⟨a, b, c, d⟩
theorem sum60 {K : List KR} {w : World} (hK : ∀ k ∈ K, KIn0 w k) (h : decide (60 < sumK K) = false) : ∀ k ∈ K, KIn w k := fun k hk => by
  have h1 := sumK_mem K k hk
  have h2 : ¬ 60 < sumK K := of_decide_eq_false h
  exact ⟨(hK k hk).rd, (hK k hk).len, (hK k hk).cap, by omega⟩
end Go.Proofs.YthcleccofccbdaaGreat
