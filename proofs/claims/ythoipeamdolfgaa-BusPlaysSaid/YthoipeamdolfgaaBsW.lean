/- Acts of a Bus in memory; long. -/
import Derived.Test.YthoipeamdolfgaaBsV
import Derived.Test.YthoipeamdolfgaaOpenA
open Go Go.RowKit Go.WideShapes Go.ChangeShapes Go.Deep
namespace Go.Proofs.Ythoipeamdolfgaa
/-- what is done with a Bus: a kind, a frame -/
structure AB where
  kind : Int
  id : Int
  A : Option Addr
  n : Nat
  c : Nat
  d : List UInt8
instance : RowC AB := ⟨3, fun m => [.int .i64 m.kind, .int .i64 m.id, .slice m.A m.n m.c], fun _ => rfl, fun m u hu => by
    simp only [List.mem_cons, List.not_mem_nil, or_false] at hu
    rcases hu with rfl | rfl | rfl <;> rfl, ⟨0, 0, none, 0, 0, []⟩⟩
def ABOk (w : World) (a : AB) : Prop := Rd w a.A (bs a.d) ∧ a.d.length = a.n ∧ a.n ≤ a.c ∧ a.n ≤ maxLen
instance : RowT Try.prog 47 3 := ⟨by kernel_rfl, _, Try.underlying47, rfl⟩
instance : ElemT Try.prog 36 47 3 40 (.agg #[.int .i64 0, .int .i64 0, .slice none 0 0]) := ⟨⟨Try.underlying36, by kernel_rfl, rfl, by decide⟩⟩
theorem cAct : Try.prog.cellsOf 47 = 3 := by kernel_rfl
theorem reads_ab {w : World} : ReadsP Try.prog w AB (ABOk w) 47 := fun H enc spare held fuel cs x hf => by
  obtain ⟨m0, hl, E⟩ := trod_fieldsA Try.underlying47 hf
  obtain ⟨y0, e0⟩ := E 0 _ rfl
  obtain ⟨y1, e1⟩ := E 1 _ rfl
  dsimp only at e0 e1
  rw [cIn] at e0
  rw [cFr] at e1
  rw [cAct] at hl
  obtain ⟨z1, g1, _, hz1⟩ := DataW.trod_int Try.underlying3 e0
  obtain ⟨id, A, n, c, d, g0, hF⟩ := trod_frame e1
  refine ⟨⟨z1, id, A, n, c, d⟩, ?_, hF.rd, hF.len, hF.cap, hF.max⟩
  have q : cs = cs.drop 0 := rfl
  rw [q, seg cs 0 1 1 rfl, seg_last cs 1 2 hl, g1, g0]
  rfl
section
variable {ops : Array Oper} {rest : List Oper} {a : Act} {w : World} {Q : Exit → Act → World → Prop} {dst : Option Tmp} {ty : TypeId} {pos : String} {after : Array Edge} {gd : Option (Nat × Bool)}
/-- the frame of an act -/
theorem ev_loadABF {x : Operand} {A : Option Addr} {k : Nat} {l : List AB} (hx : a.eval x = ptrOf A (k * 3 + 1)) (hr : HR w A (cellsOf l)) (hk : k < l.length) :
    (execOp a.eval ⟨dst, .load 45 x, ty, pos, after, gd⟩).run Try.prog w = .ok (.value (.agg #[.int .i64 (gt l k).id, .slice (gt l k).A (gt l k).n (gt l k).c])) w := by
  have ht : RowT Try.prog 45 2 := inferInstance
  show ((Instr.loadAt 45 (a.eval x)) >>= fun v => pure (Next.value v)).run Try.prog w = _
  have e : ((cellsOf l).drop (k * 3 + 1)).take 2 = [.int .i64 (gt l k).id, .slice (gt l k).A (gt l k).n (gt l k).c] := by
    have h1 : ((cellsOf l).drop (k * 3)).take 3 = RowC.enc (gt l k) := cellsOf_at l k hk
    have h2 := congrArg (List.drop 1) h1
    rw [List.drop_take, List.drop_drop] at h2
    exact h2
  rw [hx, Sem.run_bind, run_loadshift (k := k * 3 + 1) (cs := [.int .i64 (gt l k).id, .slice (gt l k).A (gt l k).n (gt l k).c]) hr.out ht rfl e (by decide)]
  rfl
end
set_option maxRecDepth 100000 in
set_option maxHeartbeats 800000 in
theorem long_calls {A : Option Addr} {n c : Nat} (l : List AB) {w : World} [h : HR w A (cellsOf l)] (hl : l.length = n) (hmax : n ≤ 9223372036854775807) :
    Calls Try.prog 17 #[.slice A n c] w fun e w' => (∃ b, e = .returned (.bool b)) ∧ Step nowhere w w' := by
  have HLL := Lib.hid hl
  clear hl
  go_enter Try.func17, Try.ntmps17
  go_wp2_with fail
  go_loopw [3, 4] (fun nv iv wr => ∃ (k : Nat) (m : Int), k ≤ n ∧ k ≤ 150 ∧ nv = .int .i64 m ∧ iv = .int .i64 (k : Int) ∧ Step nowhere w wr) (fun _ iv _ => n - (intOf iv).toNat)
  case atStart => exact ⟨0, 0, Nat.zero_le _, Nat.zero_le _, rfl, rfl, stepN⟩
  case round =>
    obtain ⟨k, m, hk, hk2, rfl, rfl, _⟩ := hrel
    by_cases hend : k < n ∧ k < 150
    · obtain ⟨hlt, hlt2⟩ := hend
      have hltI : (k : Int) < n := by omega
      have hltI2 : (k : Int) < 150 := by omega
      have hkl : k < l.length := by have := HLL.out; omega
      have hln : l.length = n := HLL.out
      go_wp2_with (first | go_skip | ((with_reducible apply (wpl_loadF (α := AB) (k := k) (s := 3) (j := 2))); (exact inferInstance); (exact rfl); (exact inferInstance); (exact rfl); (exact hkl); (exact rfl)) | ((with_reducible apply wpl_loadrow); (exact rfl); (exact inferInstance); (exact inferInstance); (first | (with_reducible assumption) | (with_reducible exact H32.size _) | (with_reducible exact enc_sz _ rfl) | kernel_rfl)) | ((with_reducible apply wpl_loadcellN); (exact rfl); (exact inferInstance); (first | (exact rfl) | (exact tg_hw _) | (exact tg_ctr _) | (exact tg_ecu _) | (exact srch_who) | (exact srch_fd))) | ((with_reducible apply wpl_indexH); (exact rfl); (exact rfl); (exact inferInstance); (exact inferInstance); (first | (with_reducible assumption) | omega); (first | (with_reducible assumption) | omega); (first | (with_reducible assumption) | omega)) | ((with_reducible apply wpl_indexH'); (exact rfl); (exact rfl); (exact inferInstance); (exact inferInstance); (first | (with_reducible assumption) | omega); (first | (with_reducible assumption) | omega); (first | (with_reducible assumption) | omega)) | ((with_reducible apply (wpl_loadhash (t := 64))); (exact rfl); (exact inferInstance); (exact inferInstance); (first | (with_reducible assumption) | omega)) | ((with_reducible apply (wpl_indexE (α := AB) (t := 36))); (exact rfl); (exact rfl); (exact inferInstance); (exact inferInstance); (first | (with_reducible assumption) | omega | (focus (simp; done)) | (focus (simp; omega; done)) | decide); (exact rfl); (decide); (first | (with_reducible assumption) | omega | (focus (simp; done)) | (focus (simp; omega; done)) | decide)) | ((with_reducible apply (wpl_indexE0 (α := AB) (t := 36))); (exact rfl); (exact inferInstance); (exact inferInstance); (first | (with_reducible assumption) | omega | (focus (simp; done)) | (focus (simp; omega; done)) | decide); (exact rfl); (decide); (first | (with_reducible assumption) | omega | (focus (simp; done)) | (focus (simp; omega; done)) | decide)) | ((with_reducible apply (wpl_loadE (α := AB) (t := 47))); (exact inferInstance); (exact rfl); (exact inferInstance); (exact rfl); (decide); (first | (with_reducible assumption) | omega | (focus (simp; done)) | (focus (simp; omega; done)) | decide)) | ((with_reducible apply (wpl_fieldE (t := 47))); (exact Try.underlying47); (exact rfl); (kernel_rfl); (exact rfl); (exact inferInstance); (exact cells_pos (by decide) (by omega))) | ((with_reducible apply (wpl_loadF (α := AB))); (exact inferInstance); (exact rfl); (exact inferInstance); (exact rfl); (first | (with_reducible assumption) | omega | (focus (simp; done)) | (focus (simp; omega; done)) | decide); (first | (exact rfl) | (exact tg_hw _) | (exact tg_ctr _) | (exact tg_ecu _) | (exact srch_who) | (exact srch_fd))) | ((with_reducible apply (wpl_fieldE (t := 45))); (exact Try.underlying45); (exact rfl); (kernel_rfl); (exact rfl); (exact inferInstance); (exact cells_pos (by decide) (by omega))) | ((with_reducible apply (wpl_loadint (t := 3))); (exact rfl); (exact inferInstance); (exact inferInstance); (first | (with_reducible assumption) | omega)) | ((with_reducible apply (wpl_loadbyte (t := 5))); (exact rfl); (exact inferInstance); (exact inferInstance); (first | (with_reducible assumption) | omega)))
      · go_ret
        first | exact ⟨⟨_, rfl⟩, stepN⟩ | exact ⟨.inl rfl, stepN⟩ | exact ⟨.inr rfl, stepN⟩
      · exact ⟨⟨k + 1, _, by omega, by omega, rfl, by simp, stepN⟩, by simp [intOf]; omega⟩
    · have hcond : (¬ (k : Int) < n) ∨ ((k : Int) < n ∧ ¬ (k : Int) < 150) := by omega
      rcases hcond with c1 | ⟨c1, c2⟩
      all_goals
        go_wp2_with fail
        go_ret
        first | exact ⟨⟨_, rfl⟩, stepN⟩ | exact ⟨.inl rfl, stepN⟩ | exact ⟨.inr rfl, stepN⟩
end Go.Proofs.Ythoipeamdolfgaa
