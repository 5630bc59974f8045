/- The reference's Take, whole; its Open; rows of frames and times. -/
import Derived.Test.YtmeeopfdplaiaaaSgRf1
import Derived.Test.YtmeeopfdplaiaaaSgRf2
import Derived.Test.YtmeeopfdplaiaaaSgRf3
import Derived.Test.YtmeeopfdplaiaaaSgRf4
open Go Go.RowKit
namespace Go.Proofs.Ytmeeopfdplaiaaa
theorem rtake_calls (id now : Int) {A : Option Addr} {n c : Nat} {d : List UInt8} {w : World} {z : Nat} {X : Nat → Prop} {s : St} (h : XS w z X s) (hN : s.N ≤ 100000000) (hm : s.m ≤ 900000) (hp : Rd w A (bs d)) (ho : Apart X A (bs d)) (hn : d.length = n) (hcc : n ≤ c) (hn2 : n ≤ 1000)
    (hok : ∀ v, s.G id = some v → v.b.length < v.whole ∧ 0 ≤ v.last ∧ v.last ≤ 9223372036854775807) (h3 : 0 ≤ now) (h4 : now ≤ 9223372036854775807) :
    Calls Try.prog 18 #[.pointer (some ⟨z, 0, none⟩), .agg #[.int .i64 id, .slice A n c], .int .i64 now] w (XTk z X w (takeS s id d now)) := by
  rcases Nat.eq_zero_or_pos n with k0 | k0
  · exact rtake0_calls id now h hN hm hp ho hn hcc hn2 hok h3 h4 k0
  · obtain ⟨q, hq⟩ : ∃ q, (bget d 0).toNat / 16 = q := ⟨_, rfl⟩
    rcases q with _ | _ | _ | q
    · exact rtake1_calls id now h hN hm hp ho hn hcc hn2 hok h3 h4 k0 hq
    · exact rtake2_calls id now h hN hm hp ho hn hcc hn2 hok h3 h4 k0 hq
    · exact rtake3_calls id now h hN hm hp ho hn hcc hn2 hok h3 h4 k0 hq
    · exact rtake4_calls id now h hN hm hp ho hn hcc hn2 hok h3 h4 k0 (by omega)
set_option maxRecDepth 100000 in
theorem ropen_calls {w : World} {z : Nat} {X : Nat → Prop} {s : St} (h : XS w z X s) :
    Calls Try.prog 21 #[.pointer (some ⟨z, 0, none⟩)] w fun e w' => e = .returned (.int .i64 (s.m : Int)) ∧ Step nowhere w w' := by
  obtain ⟨l, LA, lc, hb, hO0, hi0, hr, hx, hq⟩ := h.mem
  rw [hq.m] at hb
  have hB : HB w z 38 #[.slice LA s.m lc, .int .i64 s.N] := ⟨hb⟩
  go_enter Try.func21, Try.ntmps21
  go_wp2_with (first | ((with_reducible apply wpl_loadrow); (exact rfl); (exact inferInstance); (exact inferInstance); (first | (with_reducible assumption) | (with_reducible exact H32.size _) | kernel_rfl)) | ((with_reducible apply wpl_loadcellN); (exact rfl); (exact inferInstance); (exact rfl)))
  go_ret
  exact ⟨rfl, stepN⟩
theorem OR.nil : OR st0 [] := ⟨rfl, fun i h => by simp at h, fun _ _ => rfl, fun i j h => by simp at h, fun i h => by simp at h⟩
theorem XS.new {w : World} {z : Nat} (h : HB w z 38 #[.slice none 0 0, .int .i64 0]) : XS w z (only z) st0 :=
  ⟨rfl, fun x hx => by rw [show x = z from hx]; exact h.out.lt, [], none, 0, h.out, Own.nil _ _ _, (fun ad e => by cases e), (fun o h => by cases h), (fun o h => by cases h), OR.nil⟩
/-- no open message is of a time below nought -/
def Lo (s : St) : Prop := ∀ k v, s.G k = some v → 0 ≤ v.last
theorem Lo.st0 : Lo st0 := fun _ _ h => by cases h
theorem Lo.del {s : St} (h : Lo s) (k : Int) : Lo (s.del k) := fun x v hx => by
  simp only [St.del] at hx
  split at hx
  · cases hx
  · exact h x v hx
theorem Lo.err {s : St} (h : Lo s) : Lo s.err := h
theorem Lo.put {s : St} (h : Lo s) (k : Int) (u : Msg) (hu : 0 ≤ u.last) : Lo (s.put k u) := fun x v hx => by
  simp only [St.put] at hx
  split at hx
  · cases hx; exact hu
  · exact h x v hx
theorem Lo.drop {s : St} (h : Lo s) (k : Int) : Lo (s.drop k) := by
  unfold St.drop
  split
  · exact (h.del k).err
  · exact h
theorem Lo.late {s : St} (h : Lo s) (id now : Int) : Lo (lateS s id now) := by
  unfold lateS
  split
  · split
    · exact h.drop id
    · exact h
  · exact h
theorem Lo.further {s : St} (h : Lo s) (id : Int) (num : Nat) (part : List UInt8) {now : Int} (hn : 0 ≤ now) : Lo (furtherS s id num part now).1 := by
  unfold furtherS
  split
  · exact h.err
  · split
    · exact h.drop id
    · split
      · exact h.del id
      · exact h.put id _ hn
theorem Lo.first {s : St} (h : Lo s) (id : Int) (hi : Nat) (part : List UInt8) {now : Int} (hn : 0 ≤ now) : Lo (firstS s id hi part now).1 := by
  unfold firstS
  split
  · exact h.err
  · split
    · exact h.err
    · exact (h.drop id).put id _ hn
theorem Lo.take {s : St} (h : Lo s) (id : Int) (d : List UInt8) {now : Int} (hn : 0 ≤ now) : Lo (takeS s id d now).1 := by
  have h1 := h.late id now
  unfold takeS
  generalize lateS s id now = s1 at h1
  unfold kindS
  split
  · exact h1.err
  · split
    · unfold singleS
      split
      · exact h1.err
      · exact h1.drop id
    · split
      · exact h1.first id _ _ hn
      · split
        · exact h1.further id _ _ hn
        · exact h1.err
/-- a frame, and how much later it comes -/
structure AM where
  id : Int
  A : Option Addr
  n : Nat
  c : Nat
  d : List UInt8
  later : Int
instance : RowC AM := ⟨3, fun m => [.int .i64 m.id, .slice m.A m.n m.c, .int .i64 m.later], fun _ => rfl, fun m u hu => by
    simp only [List.mem_cons, List.not_mem_nil, or_false] at hu
    rcases hu with rfl | rfl | rfl <;> rfl, ⟨0, none, 0, 0, [], 0⟩⟩
def AOk (w : World) (a : AM) : Prop := Rd w a.A (bs a.d) ∧ a.d.length = a.n ∧ a.n ≤ a.c ∧ a.n ≤ maxLen ∧ (Lit.int .i64 a.id).wf = true
instance : RowT Try.prog 42 3 := ⟨by kernel_rfl, _, Try.underlying42, rfl⟩
instance : ElemT Try.prog 32 42 3 40 (.agg #[.int .i64 0, .slice none 0 0, .int .i64 0]) := ⟨⟨Try.underlying32, by kernel_rfl, rfl, by decide⟩⟩
theorem run_newX (w : World) : (Instr.build 38 #[]).run Try.prog w = .ok (.agg #[.slice none 0 0, .int .i64 0]) w := by kernel_rfl
section
variable {ops : Array Oper} {rest : List Oper} {a : Act} {w : World} {Q : Exit → Act → World → Prop} {dst : Option Tmp} {ty : TypeId} {pos : String} {after : Array Edge}
/-- the frame of one -/
theorem wpl_loadAF {x : Operand} {A : Option Addr} {k : Nat} {l : List AM} (hx : a.eval x = ptrOf A (k * 3 + 0)) (hr : HR w A (cellsOf l)) (hk : k < l.length)
    (h : wpList Try.prog ops Q rest (a.put dst (.agg #[.int .i64 (gt l k).id, .slice (gt l k).A (gt l k).n (gt l k).c])) w) : wpList Try.prog ops Q (⟨dst, .load 40 x, ty, pos, after, none⟩ :: rest) a w := by
  have ht : RowT Try.prog 40 2 := inferInstance
  refine wpl_of_run rfl ?_ h
  show ((Instr.loadAt 40 (a.eval x)) >>= fun v => pure (Next.value v)).run Try.prog w = _
  have e : ((cellsOf l).drop (k * 3)).take 2 = [.int .i64 (gt l k).id, .slice (gt l k).A (gt l k).n (gt l k).c] := by
    have h1 : ((cellsOf l).drop (k * 3)).take 3 = RowC.enc (gt l k) := cellsOf_at l k hk
    have h2 := congrArg (List.take 2) h1
    rw [List.take_take] at h2
    exact h2
  rw [hx, Nat.add_zero, Sem.run_bind, run_loadshift (k := k * 3) (cs := [.int .i64 (gt l k).id, .slice (gt l k).A (gt l k).n (gt l k).c]) hr.out ht rfl e (by decide)]
  rfl
theorem wpl_maxeq {P : Program} {x y : Operand} {tx ty' : TypeId} {k : IntKind} {p q r : Int} (hx : a.eval x = .int k p) (hy : a.eval y = .int k q) (hr : max p q = r) (h : wpList P ops Q rest (a.put dst (.int k r)) w) :
    wpList P ops Q (⟨dst, .call { callee := .builtin .max, args := #[x, y], argTypes := #[tx, ty'] }, ty, pos, after, none⟩ :: rest) a w := by
  subst hr
  exact wpl_max hx hy h
end
theorem and31 (x : Int) : ∃ g : Nat, (∀ w, (binOp .and 3 (.int .i64 x) (.int .i64 31)).run Try.prog w = .ok (.int .i64 (g : Int)) w) ∧ g ≤ 31 := by
  refine ⟨(BitVec.ofInt 64 x &&& BitVec.ofInt 64 (31 : Int)).toNat, fun w => ?_, ?_⟩
  · have hle : (BitVec.ofInt 64 x &&& BitVec.ofInt 64 (31 : Int)).toNat ≤ 31 := by
      rw [BitVec.toNat_and]
      exact Nat.le_trans Nat.and_le_right (by decide)
    have e : bits .and .i64 x 31 = (((BitVec.ofInt 64 x &&& BitVec.ofInt 64 (31 : Int)).toNat : Nat) : Int) := by
      show IntKind.i64.wrap ((BitVec.ofInt 64 x &&& BitVec.ofInt 64 (31 : Int)).toNat : Int) = _
      rw [IntKind.wrap_i64]
      omega
    rw [← e]
    rfl
  · rw [BitVec.toNat_and]
    exact Nat.le_trans Nat.and_le_right (by decide)
end Go.Proofs.Ytmeeopfdplaiaaa
