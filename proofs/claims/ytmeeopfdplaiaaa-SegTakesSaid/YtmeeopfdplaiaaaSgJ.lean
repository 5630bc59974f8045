/- A Join in memory; err, drop, Errors, Open, stale, New. -/
import Derived.Test.YtmeeopfdplaiaaaSgG
import Derived.Laws.Cover3
open Go Go.RowKit
namespace Go.Proofs.Ytmeeopfdplaiaaa
abbrev zMsgC : Array Value := #[.slice none 0 0, .int .i64 0, .int .i64 0, .int .i64 0]
/-- where a message's bytes lie -/
structure Mp where
  A : Option Addr
  c : Nat
def msgC (p : Mp) (v : Msg) : Array Value := #[.slice p.A v.b.length p.c, .int .i64 v.whole, .int .i64 v.next, .int .i64 v.last]
def cellsG (s : St) (F : Int → Mp) : Int → Option (Array Value) := fun k => (s.G k).map (msgC (F k))
def asV (L : Int → Option (Array Value)) : Int → Option Value := fun k => (L k).map Value.agg
structure Rws (w : World) (S : Nat → Prop) (s : St) (F : Int → Mp) : Prop where
  own : ∀ k v, s.G k = some v → Own w 5 1 (F k).A v.b.length (F k).c (bs v.b)
  inS : ∀ k v, s.G k = some v → ∀ ad, (F k).A = some ad → S ad.block
  apart : ∀ k k' v v', s.G k = some v → s.G k' = some v' → k ≠ k' → ∀ ad ad', (F k).A = some ad → (F k').A = some ad' → ad.block ≠ ad'.block
abbrev Look (w : World) (M : Option Nat) (m : Nat) (L : Int → Option (Array Value)) : Prop := LookOf Try.prog 3 zMsg w M m (asV L)
/-- block z is a Join that stands so; its blocks lie in S -/
structure JS (w : World) (z : Nat) (S : Nat → Prop) (s : St) : Prop where
  ok : s.Ok
  inz : S z
  low : ∀ x, S x → x < w.heap.size
  mem : ∃ F M, Blk w z 79 #[.map M, .int .i64 s.N] ∧ Rws w S s F ∧ Look w M s.m (cellsG s F) ∧ ∀ g, M = some g → S g
theorem JS.lt {w : World} {z : Nat} {S : Nat → Prop} {s : St} (h : JS w z S s) : z < w.heap.size := by
  obtain ⟨F, M, hb, _⟩ := h.mem
  exact hb.lt
theorem Rws.chg {T : Nat → Prop} {w w' : World} {S : Nat → Prop} {s : St} {F : Int → Mp} (h : Rws w S s F) (hc : Chg T w w') (hT : ∀ k v, s.G k = some v → ∀ ad, (F k).A = some ad → ¬ T ad.block) : Rws w' S s F :=
  ⟨fun k v hk => (h.own k v hk).chg hc (hT k v hk), h.inS, h.apart⟩
theorem Rws.same {w : World} {S : Nat → Prop} {s s' : St} {F : Int → Mp} (h : Rws w S s F) (e : s'.G = s.G) : Rws w S s' F := by
  have h1 := h.own
  have h2 := h.inS
  have h3 := h.apart
  rw [← e] at h1 h2 h3
  exact ⟨h1, h2, h3⟩
/-- nothing of it is touched -/
theorem JS.calm {T : Nat → Prop} {w w' : World} {z : Nat} {S : Nat → Prop} {s : St} (h : JS w z S s) (hc : Chg T w w') (hT : ∀ x, S x → ¬ T x) : JS w' z S s := by
  obtain ⟨F, M, hb, hr, hm, hg⟩ := h.mem
  exact ⟨h.ok, h.inz, fun x hx => Nat.lt_of_lt_of_le (h.low x hx) hc.size, F, M, hb.chg hc (hT z h.inz), hr.chg hc (fun k v hk ad e => hT _ (hr.inS k v hk ad e)), hm.chg hc (fun g e => hT g (hg g e)), hg⟩
theorem own_no_blk {w : World} {e : TypeId} {n c : Nat} {A : Option Addr} {xs : List Value} (h : Own w e 1 A n c xs) {z : Nat} {t : TypeId} {cs : Array Value} (hb : Blk w z t cs) (hne : e ≠ t) {ad : Addr} (ha : A = some ad) : ad.block ≠ z := by
  rcases h.form with ⟨e0, _⟩ | ⟨g, cur, e1, hg, _⟩
  · rw [e0] at ha; cases ha
  · rw [e1] at ha
    injection ha with ha
    subst ha
    exact hg.ne_ hb hne
theorem own_no_map {w : World} {e : TypeId} {n c : Nat} {A : Option Addr} {xs : List Value} (h : Own w e 1 A n c xs) {P : Program} {kt : TypeId} {z : Value} {g m : Nat} {f : Int → Option Value} (hm : MapIV P kt z w g m f) {ad : Addr} (ha : A = some ad) : ad.block ≠ g := by
  rcases h.form with ⟨e0, _⟩ | ⟨g', cur, e1, hg, _⟩
  · rw [e0] at ha; cases ha
  · rw [e1] at ha
    injection ha with ha
    subst ha
    exact hm.no_blk hg
/-- the looks, as a fact of memory -/
class HMJ (w : World) (M : Option Nat) (m : outParam Nat) (L : outParam (Int → Option (Array Value))) : Prop where
  out : Look w M m L
instance HMJ.step (S : Nat → Prop) (w w' : World) (M : Option Nat) (m : Nat) (L : Int → Option (Array Value)) [s : Step S w w'] [h : HMJ w M m L] [o : OffM S M] : HMJ w' M m L := ⟨h.out.chg s.chg o.out⟩
instance OffM.bornJ (w : World) (y m : Nat) (M : Option Nat) (L : Int → Option (Array Value)) [b : Born w y] [h : HMJ w M m L] : OffM (only y) M := ⟨fun g e hk => by
  have h2 := h.out
  subst e
  have h3 : g < w.heap.size := MapIV.lt h2
  have hk' : g = y := hk
  have := b.eq
  omega⟩
instance OffM.none (S : Nat → Prop) : OffM S none := ⟨fun _ h => by cases h⟩
section
variable {ops : Array Oper} {rest : List Oper} {a : Act} {w : World} {Q : Exit → Act → World → Prop} {dst : Option Tmp} {ty : TypeId} {pos : String} {after : Array Edge} {gd : Option (Nat × Bool)} {M : Option Nat} {m : Nat} {L : Int → Option (Array Value)}
theorem ev_lookMJ {x k : Operand} {i : Int} {lk : Array Value} {b : Bool} (hm : a.eval x = .map M) (hx : a.eval k = .int .i64 i) (hs : HMJ w M m L) (hk : (Lit.int .i64 i).wf = true) (hl : (L i).getD zMsgC = lk) (hb : (L i).isSome = b) :
    (execOp a.eval ⟨dst, .lookup 77 x k true, ty, pos, after, gd⟩).run Try.prog w = .ok (.value (.tuple #[.agg lk, .bool b])) w := by
  show ((Instr.lookup 77 (a.eval x) (a.eval k) true) >>= fun v => pure (Next.value v)).run Try.prog w = _
  rw [hm, hx, Sem.run_bind, hs.out.look mapT i hk, ← hl, ← hb]
  unfold asV
  cases L i <;> rfl
theorem wpl_lookMJ {x k : Operand} {i : Int} {lk : Array Value} {b : Bool} (hm : a.eval x = .map M) (hx : a.eval k = .int .i64 i) (hs : HMJ w M m L) (hk : (Lit.int .i64 i).wf = true) (hl : (L i).getD zMsgC = lk) (hb : (L i).isSome = b)
    (h : wpList Try.prog ops Q rest (a.put dst (.tuple #[.agg lk, .bool b])) w) : wpList Try.prog ops Q (⟨dst, .lookup 77 x k true, ty, pos, after, none⟩ :: rest) a w := wpl_of_run rfl (ev_lookMJ hm hx hs hk hl hb) h
theorem wpl_lenMJ {x : Operand} (hm : a.eval x = .map M) (hs : HMJ w M m L)
    (h : wpList Try.prog ops Q rest (a.put dst (.int .i64 (m : Int))) w) : wpList Try.prog ops Q (⟨dst, .call { callee := .builtin .len, args := #[x], argTypes := #[77] }, ty, pos, after, none⟩ :: rest) a w :=
  wpl_of_run rfl (by
    simp only [execOp, resolve, invoke, builtin, Sem.run_bind, Sem.run_pure, Result.andThen_ok, List.map_toArray, List.map_cons, List.map_nil, hm, hs.out.len mapT ty]) h
end
theorem msgC_size (p : Mp) (v : Msg) : (msgC p v).size = 4 := rfl
theorem look_size (s : St) (F : Int → Mp) (k : Int) : ((cellsG s F k).getD zMsgC).size = 4 := by
  unfold cellsG
  cases s.G k <;> rfl
theorem look_one (s : St) (F : Int → Mp) (k : Int) : ((cellsG s F k).getD zMsgC).all (·.oneCell') = true := by
  unfold cellsG
  cases s.G k <;> simp [msgC, Value.oneCell']
theorem look_some (s : St) (F : Int → Mp) (k : Int) : (cellsG s F k).isSome = (s.G k).isSome := by
  unfold cellsG
  cases s.G k <;> rfl
/-- how a call ends that leaves another state -/
def Moves (z : Nat) (S : Nat → Prop) (s' : St) (w w' : World) : Prop := JS w' z S s' ∧ Chg S w w'
set_option maxRecDepth 100000 in
theorem err_calls {w : World} {z : Nat} {S : Nat → Prop} {s : St} (h : JS w z S s) (hN : s.N ≤ 1000000000) :
    Calls Try.prog 28 #[.pointer (some ⟨z, 0, none⟩)] w fun e w' => e = .returned (.tuple #[.slice none 0 0, .bool false]) ∧ JS w' z S s.err ∧ Chg S w w' := by
  obtain ⟨F, M, hb, hr, hm, hg⟩ := h.mem
  have hB : HB w z 79 #[.map M, .int .i64 s.N] := ⟨hb⟩
  go_enter Try.func28, Try.ntmps28
  go_wp2_with (first | ((with_reducible apply wpl_loadrow); exact rfl; infer_instance; infer_instance; (first | with_reducible assumption | (with_reducible exact H32.size _) | kernel_rfl)) | ((with_reducible apply wpl_loadcellN); exact rfl; infer_instance; exact rfl) | ((with_reducible apply wpl_storerow); exact rfl; exact rfl; infer_instance; infer_instance; (first | with_reducible assumption | (with_reducible exact H32.size _) | kernel_rfl); (first | with_reducible assumption | (with_reducible exact H32.size _) | kernel_rfl); (first | (with_reducible exact u8s_one _) | with_reducible assumption | kernel_rfl); intro ws _ _) | ((with_reducible apply wpl_storecell); exact rfl; exact rfl; infer_instance; exact rfl; (first | with_reducible assumption | omega | (focus (simp; done)) | (focus (simp; omega; done)) | decide); intro ws _ _))
  go_ret2
  have hc : Chg (only z) w ws := stepC.chg
  have hB' : HB ws z 79 (#[.map M, .int .i64 s.N].setIfInBounds 1 (.int .i64 ((s.N : Int) + 1))) := inferInstance
  have hmap : ∀ g, M = some g → ¬ only z g := fun g e hk => by
    have hk' : g = z := hk
    subst e
    exact (MapIV.no_blk (show MapIV _ _ _ w g s.m _ from hm) hb) hk'.symm
  exact ⟨rfl, ⟨h.ok.err, h.inz, fun x hx => Nat.lt_of_lt_of_le (h.low x hx) hc.size, F, M, hB'.out, (hr.chg hc (fun k v hk ad e => own_no_blk (hr.own k v hk) hb (by decide) e)).same rfl, hm.chg hc hmap, hg⟩, hc.mono (fun x _ hx => by rw [show x = z from hx]; exact h.inz)⟩
instance OffB.bornMI' (w : World) (y g m : Nat) (f : Int → Option Value) [b : Born w y] [h : HMI Try.prog 3 zMsg w g m f] : OffB (only y) g := OffB.bornMI w y g m f h.out
instance OffA.newMI (w : World) (g m : Nat) (f : Int → Option Value) (A : Option Addr) [b : NewA w A] [h : HMI Try.prog 3 zMsg w g m f] : OffA (only g) A := ⟨fun ad e hk => by
  have h1 := b.out ad e
  have h2 : g < w.heap.size := h.out.lt
  have hk' : ad.block = g := hk
  omega⟩
instance OffA.growMI (w : World) (A A' : Option Addr) (g m : Nat) (f : Int → Option Value) [k : Grew w A A'] [h : HMI Try.prog 3 zMsg w g m f] [o : OffA (only g) A] : OffA (only g) A' := ⟨fun ad e hk => by
  rcases k.out with k | k
  · exact o.out ad (k.symm.trans e) hk
  · rw [k] at e
    injection e with e
    subst e
    have h1 : g < w.heap.size := h.out.lt
    have h2 : w.heap.size = g := hk
    omega⟩
instance OffB.laterMI (w : World) (y g m : Nat) (f : Int → Option Value) [b : Born w y] [h : HMI Try.prog 3 zMsg w g m f] : OffB (only g) y := ⟨fun e => by
  have e' : y = g := e
  have := h.out.lt
  rw [← e', b.eq] at this
  omega⟩
def tri (z g : Nat) (A : Option Addr) : Nat → Prop := fun k => k = z ∨ k = g ∨ rowOf A k
instance Into.tri1 (w0 : World) (z g : Nat) (A : Option Addr) : Into w0 (only z) (tri z g A) := ⟨fun _ _ h => .inl h⟩
instance Into.tri2 (w0 : World) (z g : Nat) (A : Option Addr) : Into w0 (only g) (tri z g A) := ⟨fun _ _ h => .inr (.inl h)⟩
instance Into.tri3 (w0 : World) (z g : Nat) (A : Option Addr) : Into w0 (rowOf A) (tri z g A) := ⟨fun _ _ h => .inr (.inr h)⟩
theorem asV_del (s : St) (F : Int → Mp) (id : Int) : asV (cellsG (s.del id) F) = fun x => if x = id then none else asV (cellsG s F) x := by
  funext x
  simp only [asV, cellsG, St.del]
  split <;> rfl
theorem asV_some (s : St) (F : Int → Mp) (k : Int) : (asV (cellsG s F) k).isSome = (s.G k).isSome := by
  simp only [asV, cellsG]
  cases s.G k <;> rfl
theorem Rws.del {w : World} {S : Nat → Prop} {s : St} {F : Int → Mp} (h : Rws w S s F) (id : Int) : Rws w S (s.del id) F := by
  have key : ∀ k v, (s.del id).G k = some v → s.G k = some v := fun k v hk => by
    simp only [St.del] at hk
    split at hk
    · cases hk
    · exact hk
  exact ⟨fun k v hk => h.own k v (key k v hk), fun k v hk => h.inS k v (key k v hk), fun k k' v v' hk hk' => h.apart k k' v v' (key k v hk) (key k' v' hk')⟩
set_option maxRecDepth 100000 in
theorem drop_calls (id : Int) {w : World} {z : Nat} {S : Nat → Prop} {s : St} (h : JS w z S s) (hN : s.N ≤ 1000000000) (hid : (Lit.int .i64 id).wf = true) :
    Calls Try.prog 27 #[.pointer (some ⟨z, 0, none⟩), .int .i64 id] w fun e w' => e = .returned (.tuple #[]) ∧ JS w' z S (s.drop id) ∧ Chg S w w' := by
  obtain ⟨F, M, hb, hr, hm, hg⟩ := h.mem
  have hB : HB w z 79 #[.map M, .int .i64 s.N] := ⟨hb⟩
  have hJ : HMJ w M s.m (cellsG s F) := ⟨hm⟩
  have hz4 := look_size s F id
  have hone := look_one s F id
  have hss := look_some s F id
  obtain ⟨lk, hlk⟩ : ∃ lk, (cellsG s F id).getD zMsgC = lk := ⟨_, rfl⟩
  rw [hlk] at hz4 hone
  have HL := Lib.hid hlk
  clear hlk
  cases hs : s.G id with
  | none =>
    rw [hs] at hss
    have HS := Lib.hid hss
    clear hss
    go_enter Try.func27, Try.ntmps27
    go_wp2_with (first | ((with_reducible apply wpl_lookMJ); exact rfl; exact rfl; infer_instance; (exact hid); (exact HL.out); (exact HS.out)) | ((with_reducible apply (wpl_alloc (dst := some 4))); intro zl wzl _ _ _) | ((with_reducible apply wpl_alloc); intro z wz _ _ _) | ((with_reducible apply wpl_loadrow); exact rfl; infer_instance; infer_instance; (first | with_reducible assumption | (with_reducible exact H32.size _) | kernel_rfl)) | ((with_reducible apply wpl_loadcellN); exact rfl; infer_instance; exact rfl) | ((with_reducible apply wpl_storerow); exact rfl; exact rfl; infer_instance; infer_instance; (first | with_reducible assumption | (with_reducible exact H32.size _) | kernel_rfl); (first | with_reducible assumption | (with_reducible exact H32.size _) | kernel_rfl); (first | (with_reducible exact u8s_one _) | with_reducible assumption | kernel_rfl); intro ws _ _) | ((with_reducible apply wpl_storecell); exact rfl; exact rfl; infer_instance; exact rfl; (first | with_reducible assumption | omega | (focus (simp; done)) | (focus (simp; omega; done)) | decide); intro ws _ _))
    go_end0
    rw [drop_none hs]
    have hc : Chg nowhere w ws := stepN.chg
    exact ⟨rfl, h.calm hc (fun _ _ hk => hk), hc.mono (fun x _ hx => hx.elim)⟩
  | some v =>
    rw [hs] at hss
    have HS := Lib.hid hss
    clear hss
    cases M with
    | none =>
      have := hm.2 id
      simp [asV, cellsG, hs] at this
    | some g =>
      have hI : HMI Try.prog 3 zMsg w g s.m (asV (cellsG s F)) := ⟨hm⟩
      have hzg : z ≠ g := MapIV.no_blk (show MapIV _ _ _ w g s.m _ from hm) hb
      have o1 : OffB (only g) z := ⟨fun e => hzg e⟩
      have o2 : OffB (only z) g := ⟨fun e => hzg e.symm⟩
      go_enter Try.func27, Try.ntmps27
      go_wp2_with (first | ((with_reducible apply wpl_lookMJ); exact rfl; exact rfl; infer_instance; (exact hid); (exact HL.out); (exact HS.out)) | ((with_reducible apply wpl_delMI); exact rfl; exact rfl; infer_instance; infer_instance; (exact hid); intro wp _ hI2) | ((with_reducible apply (wpl_alloc (dst := some 4))); intro zl wzl _ _ _) | ((with_reducible apply wpl_alloc); intro z wz _ _ _) | ((with_reducible apply wpl_loadrow); exact rfl; infer_instance; infer_instance; (first | with_reducible assumption | (with_reducible exact H32.size _) | kernel_rfl)) | ((with_reducible apply wpl_loadcellN); exact rfl; infer_instance; exact rfl) | ((with_reducible apply wpl_storerow); exact rfl; exact rfl; infer_instance; infer_instance; (first | with_reducible assumption | (with_reducible exact H32.size _) | kernel_rfl); (first | with_reducible assumption | (with_reducible exact H32.size _) | kernel_rfl); (first | (with_reducible exact u8s_one _) | with_reducible assumption | kernel_rfl); intro ws _ _) | ((with_reducible apply wpl_storecell); exact rfl; exact rfl; infer_instance; exact rfl; (first | with_reducible assumption | omega | (focus (simp; done)) | (focus (simp; omega; done)) | decide); intro ws _ _))
      go_end0
      have hc : Chg (both z g) w ws := stepC.chg
      have hB' : HB ws z 79 (#[.map (some g), .int .i64 s.N].setIfInBounds 1 (.int .i64 ((s.N : Int) + 1))) := inferInstance
      have hI3 : HMI Try.prog 3 zMsg ws g (if (asV (cellsG s F) id).isSome = true then s.m - 1 else s.m) (fun x => if x = id then none else asV (cellsG s F) x) := inferInstance
      rw [drop_some hs]
      refine ⟨rfl, ⟨(h.ok.del id).err, h.inz, fun x hx => Nat.lt_of_lt_of_le (h.low x hx) hc.size, F, some g, hB'.out, (((hr.chg hc ?_).del id).same rfl), ?_, hg⟩, hc.mono ?_⟩
      · intro k v' hk ad e hx
        rcases hx with hx | hx
        · exact own_no_blk (hr.own k v' hk) hb (by decide) e hx
        · exact own_no_map (hr.own k v' hk) (show MapIV _ _ _ w g s.m _ from hm) e hx
      · have h3 := hI3.out
        rw [asV_some, ← asV_del] at h3
        exact h3
      · intro x _ hx
        rcases hx with rfl | rfl
        · exact h.inz
        · exact hg _ rfl
set_option maxRecDepth 100000 in
theorem errors_calls {w : World} {z : Nat} {S : Nat → Prop} {s : St} (h : JS w z S s) :
    Calls Try.prog 19 #[.pointer (some ⟨z, 0, none⟩)] w fun e w' => e = .returned (.int .i64 (s.N : Int)) ∧ Step nowhere w w' := by
  obtain ⟨F, M, hb, hr, hm, hg⟩ := h.mem
  have hB : HB w z 79 #[.map M, .int .i64 s.N] := ⟨hb⟩
  go_enter Try.func19, Try.ntmps19
  go_wp2_with (first | ((with_reducible apply wpl_loadrow); exact rfl; infer_instance; infer_instance; (first | with_reducible assumption | (with_reducible exact H32.size _) | kernel_rfl)) | ((with_reducible apply wpl_loadcellN); exact rfl; infer_instance; exact rfl))
  go_ret
  exact ⟨rfl, stepN⟩
set_option maxRecDepth 100000 in
theorem open_calls {w : World} {z : Nat} {S : Nat → Prop} {s : St} (h : JS w z S s) :
    Calls Try.prog 20 #[.pointer (some ⟨z, 0, none⟩)] w fun e w' => e = .returned (.int .i64 (s.m : Int)) ∧ Step nowhere w w' := by
  obtain ⟨F, M, hb, hr, hm, hg⟩ := h.mem
  have hB : HB w z 79 #[.map M, .int .i64 s.N] := ⟨hb⟩
  have hJ : HMJ w M s.m (cellsG s F) := ⟨hm⟩
  go_enter Try.func20, Try.ntmps20
  go_wp2_with (first | ((with_reducible apply wpl_lenMJ); exact rfl; infer_instance) | ((with_reducible apply wpl_loadrow); exact rfl; infer_instance; infer_instance; (first | with_reducible assumption | (with_reducible exact H32.size _) | kernel_rfl)) | ((with_reducible apply wpl_loadcellN); exact rfl; infer_instance; exact rfl))
  go_ret
  exact ⟨rfl, stepN⟩
theorem run_newJ (w : World) : (Instr.build 79 #[]).run Try.prog w = .ok (.agg #[.map none, .int .i64 0]) w := by kernel_rfl
set_option maxRecDepth 100000 in
theorem newJ_calls (w : World) :
    Calls Try.prog 16 #[] w fun e w' => ∃ z, e = .returned (.pointer (some ⟨z, 0, none⟩)) ∧ Step nowhere w w' ∧ JS w' z (only z) st0 ∧ w.heap.size ≤ z := by
  go_enter Try.func16, Try.ntmps16
  go_wp2_with (first | ((with_reducible apply wpl_build); (exact run_newJ _)) | ((with_reducible apply (wpl_box_agg (dst := some 2))); exact rfl; intro z wz _ _ _) | ((with_reducible apply (wpl_box_int (dst := some 2))); exact rfl; intro z wz _ _ _) | ((with_reducible apply (wpl_box_slice (dst := some 2))); exact rfl; intro z wz _ _ _) | ((with_reducible apply (wpl_box_str (dst := some 2))); exact rfl; intro z wz _ _ _) | ((with_reducible apply (wpl_box_bool (dst := some 2))); exact rfl; intro z wz _ _ _) | ((with_reducible apply (wpl_box_ptr (dst := some 2))); exact rfl; intro z wz _ _ _) | ((with_reducible apply wpl_box_agg); exact rfl; intro z wz _ _ _) | ((with_reducible apply wpl_box_int); exact rfl; intro z wz _ _ _) | ((with_reducible apply wpl_box_slice); exact rfl; intro z wz _ _ _) | ((with_reducible apply wpl_box_str); exact rfl; intro z wz _ _ _) | ((with_reducible apply wpl_box_bool); exact rfl; intro z wz _ _ _) | ((with_reducible apply wpl_box_ptr); exact rfl; intro z wz _ _ _))
  go_ret
  have hB : HB wz z 79 #[.map none, .int .i64 0] := inferInstance
  have hz : z = w.heap.size := (inferInstance : Born w z).eq
  exact ⟨z, rfl, stepN, ⟨Ok.st0, rfl, fun x hx => (by rw [show x = z from hx]; exact hB.out.lt), fun _ => ⟨none, 0⟩, none, hB.out, ⟨fun k v hk => (by cases hk), fun k v hk => (by cases hk), fun k k' v v' hk => (by cases hk)⟩, ⟨rfl, fun k => rfl⟩, fun g e => (by cases e)⟩, by omega⟩
set_option maxRecDepth 100000 in
theorem stale_calls {A : Option Addr} {n c : Nat} (a b last now : Int) {w : World} (h1 : -9223372036854775808 ≤ last) (h2 : last ≤ 9223372036854775807) (h3 : -9223372036854775808 ≤ now) (h4 : now ≤ 9223372036854775807) :
    Calls Try.prog 26 #[.agg #[.slice A n c, .int .i64 a, .int .i64 b, .int .i64 last], .int .i64 now] w fun e w' => e = .returned (.bool (staleB last now)) ∧ Step nowhere w w' := by
  go_enter Try.func26, Try.ntmps26
  by_cases hl : now < last
  · go_wp2_with (first | go_skip | ((with_reducible apply wpl_box_agg); exact rfl; intro z wz _ _ _) | ((with_reducible apply wpl_box_int); exact rfl; intro z wz _ _ _) | ((with_reducible apply wpl_box_slice); exact rfl; intro z wz _ _ _) | ((with_reducible apply wpl_box_str); exact rfl; intro z wz _ _ _) | ((with_reducible apply wpl_box_bool); exact rfl; intro z wz _ _ _) | ((with_reducible apply wpl_box_ptr); exact rfl; intro z wz _ _ _) | ((with_reducible apply (wpl_guard (op := .load _ _))); exact rfl) | ((with_reducible apply (wpl_guard (op := .fieldAddr _ _ _))); exact rfl) | ((with_reducible apply (wpl_guard (op := .convert _ _ _))); exact rfl) | ((with_reducible apply wpl_loadrow); exact rfl; infer_instance; infer_instance; (first | with_reducible assumption | (with_reducible exact H32.size _) | kernel_rfl)) | ((with_reducible apply wpl_loadcellN); exact rfl; infer_instance; exact rfl))
    go_ret
    exact ⟨by simp [staleB, hl], stepN⟩
  · have hu : 0 ≤ now - last := by omega
    go_wp2_with (first | go_skip | ((with_reducible apply wpl_box_agg); exact rfl; intro z wz _ _ _) | ((with_reducible apply wpl_box_int); exact rfl; intro z wz _ _ _) | ((with_reducible apply wpl_box_slice); exact rfl; intro z wz _ _ _) | ((with_reducible apply wpl_box_str); exact rfl; intro z wz _ _ _) | ((with_reducible apply wpl_box_bool); exact rfl; intro z wz _ _ _) | ((with_reducible apply wpl_box_ptr); exact rfl; intro z wz _ _ _) | ((with_reducible apply (wpl_guard (op := .load _ _))); exact rfl) | ((with_reducible apply (wpl_guard (op := .fieldAddr _ _ _))); exact rfl) | ((with_reducible apply (wpl_guard (op := .convert _ _ _))); exact rfl) | ((with_reducible apply wpl_loadrow); exact rfl; infer_instance; infer_instance; (first | with_reducible assumption | (with_reducible exact H32.size _) | kernel_rfl)) | ((with_reducible apply wpl_loadcellN); exact rfl; infer_instance; exact rfl))
    go_ret
    refine ⟨?_, stepN⟩
    have e : IntKind.u64.wrap (IntKind.u64.wrap now - IntKind.u64.wrap last) = now - last := by
      rw [IntKind.wrap_u64, IntKind.wrap_u64, IntKind.wrap_u64]
      omega
    show Ending.returned (.bool (decide (10 < IntKind.u64.wrap (IntKind.u64.wrap now - IntKind.u64.wrap last)))) = _
    rw [e, staleB, decide_eq_false (by omega : ¬ now < last), Bool.false_or]
theorem asV_put (s : St) (F : Int → Mp) (id : Int) (u : Msg) (q : Mp) : asV (cellsG (s.put id u) (fun x => if x = id then q else F x)) = fun x => if x = id then some (.agg (msgC q u)) else asV (cellsG s F) x := by
  funext x
  simp only [asV, cellsG, St.put]
  split <;> rfl
/-- a message put: where it lies it is the call's own, apart from the others -/
theorem Rws.put {T S S' : Nat → Prop} {w w' : World} {s : St} {F : Int → Mp} (h : Rws w S s F) (hc : Chg T w w') (id : Int) (hT : ∀ k v, k ≠ id → s.G k = some v → ∀ ad, (F k).A = some ad → ¬ T ad.block) (u : Msg) (q : Mp)
    (ho : Own w' 5 1 q.A u.b.length q.c (bs u.b)) (hS : ∀ x, S x → S' x) (hin : ∀ ad, q.A = some ad → S' ad.block) (hap : ∀ k v, k ≠ id → s.G k = some v → ∀ ad ad', q.A = some ad → (F k).A = some ad' → ad.block ≠ ad'.block) :
    Rws w' S' (s.put id u) (fun x => if x = id then q else F x) := by
  have key : ∀ k v, (s.put id u).G k = some v → k ≠ id → s.G k = some v := fun k v hk hne => by
    simp only [St.put, if_neg hne] at hk
    exact hk
  have key2 : ∀ v, (s.put id u).G id = some v → v = u := fun v hk => by
    simp only [St.put] at hk
    injection hk with hk
    exact hk.symm
  refine ⟨fun k v hk => ?_, fun k v hk ad => ?_, fun k k' v v' hk hk' hne ad ad' => ?_⟩
  · by_cases e : k = id
    · subst e
      rw [key2 v hk, if_pos rfl]
      exact ho
    · rw [if_neg e]
      exact (h.own k v (key k v hk e)).chg hc (hT k v e (key k v hk e))
  · by_cases e : k = id
    · rw [if_pos e]
      exact hin ad
    · rw [if_neg e]
      exact fun h2 => hS _ (h.inS k v (key k v hk e) ad h2)
  · by_cases e : k = id
    · have e' : k' ≠ id := fun h2 => hne (e.trans h2.symm)
      rw [if_pos e, if_neg e']
      exact hap k' v' e' (key k' v' hk' e') ad ad'
    · rw [if_neg e]
      by_cases e' : k' = id
      · rw [if_pos e']
        exact fun h1 h2 h3 => hap k v e (key k v hk e) ad' ad h2 h1 h3.symm
      · rw [if_neg e']
        exact h.apart k k' v v' (key k v hk e) (key k' v' hk' e') hne ad ad'
theorem Rws.delT {T S : Nat → Prop} {w w' : World} {s : St} {F : Int → Mp} (h : Rws w S s F) (hc : Chg T w w') (id : Int) (hT : ∀ k v, k ≠ id → s.G k = some v → ∀ ad, (F k).A = some ad → ¬ T ad.block) : Rws w' S (s.del id) F := by
  have key : ∀ k v, (s.del id).G k = some v → k ≠ id ∧ s.G k = some v := fun k v hk => by
    simp only [St.del] at hk
    split at hk
    · cases hk
    · rename_i hne
      exact ⟨hne, hk⟩
  exact ⟨fun k v hk => (h.own k v (key k v hk).2).chg hc (hT k v (key k v hk).1 (key k v hk).2), fun k v hk => h.inS k v (key k v hk).2, fun k k' v v' hk hk' => h.apart k k' v v' (key k v hk).2 (key k' v' hk').2⟩
theorem nilM (M : Option Nat) (w : World) : (binOp .eql 77 (.map M) (.map none)).run Try.prog w = .ok (.bool M.isNone) w := by
  have h := run_equal_map_nil (P := Try.prog) w 77 3 81 M Try.underlying77
  simp only [binOp]
  simp [h]
theorem run_msg (A : Option Addr) (n c : Nat) (a b d : Int) (w : World) : (Instr.build 81 #[(0, .slice A n c), (1, .int .i64 a), (2, .int .i64 b), (3, .int .i64 d)]).run Try.prog w = .ok (.agg #[.slice A n c, .int .i64 a, .int .i64 b, .int .i64 d]) w := by kernel_rfl
section
variable {P : Program} {ops : Array Oper} {rest : List Oper} {a : Act} {w : World} {Q : Exit → Act → World → Prop} {dst : Option Tmp} {ty : TypeId} {pos : String} {after : Array Edge}
theorem wpl_or {x y : Operand} {t t' : TypeId} {k : IntKind} {p q r : Int} (hx : a.eval x = .int k p) (hy : a.eval y = .int k q) (hr : ∀ w, (binOp .or t (.int k p) (.int k q)).run P w = .ok (.int k r) w)
    (h : wpList P ops Q rest (a.put dst (.int k r)) w) : wpList P ops Q (⟨dst, .binOp .or t x y t', ty, pos, after, none⟩ :: rest) a w :=
  wpl_of_run rfl (by
    show ((binOp .or t (a.eval x) (a.eval y)) >>= fun v => pure (Next.value v)).run P w = _
    rw [hx, hy, Sem.run_bind, hr]
    rfl) h
end
end Go.Proofs.Ytmeeopfdplaiaaa
