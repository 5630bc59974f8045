/- RpK, RpC, RsA -/
import Derived.Test.YtgjnjhhhbkidbaaGreatUdKyE
import Derived.Test.YtgjnjhhhbkidbaaGreatUdKyQ
import Derived.Test.YtgjnjhhhbkidbaaGreatUdRpB
import Derived.Test.YtgjnjhhhbkidbaaGreatUdTgL
section
open Go Go.RowKit
namespace Go.Proofs.YtgjnjhhhbkidbaaGreat
/-- a repo's cells: seed, keys, the key told first, generation, version; then targets, what is handed out, the ledger -/
def rpL (sd : H32) (p0 p1 : Value) (f : H32) (g v : Int) (tl : List Value) : List Value := bs sd.l ++ (p0 :: p1 :: (bs f.l ++ (.int .i64 g :: .int .i64 v :: tl)))
def rpSuf : List Value := [.slice none 0 0, .slice none 0 0, .slice none 0 0, .slice none 0 0, .slice none 0 0, .slice none 0 0, .slice none 0 0]
def rpTl : List Value := .slice none 0 0 :: rpSuf
theorem rpL_len (sd : H32) (p0 p1 : Value) (f : H32) (g v : Int) (tl : List Value) (h : tl.length = 8) : (rpL sd p0 p1 f g v tl).length = 76 := by simp [rpL, bs_length, h]
theorem rp_get32 (sd : H32) (p0 p1 : Value) (f : H32) (g v : Int) (tl : List Value) (i : Nat) : (rpL sd p0 p1 f g v tl)[32 + i]? = (p0 :: p1 :: (bs f.l ++ (.int .i64 g :: .int .i64 v :: tl)))[i]? := by
  rw [rpL, List.getElem?_append_right (by rw [bs_length, sd.len]; omega), bs_length, sd.len, Nat.add_sub_cancel_left]
theorem rp_get68 (sd : H32) (p0 p1 : Value) (f : H32) (g v : Int) (tl : List Value) (i : Nat) : (rpL sd p0 p1 f g v tl)[68 + i]? = tl[i]? := by
  rw [show 68 + i = 32 + (((32 + (i + 2)) + 1) + 1) by omega, rp_get32, List.getElem?_cons_succ, List.getElem?_cons_succ, List.getElem?_append_right (by rw [bs_length, f.len]; omega), bs_length, f.len, Nat.add_sub_cancel_left, List.getElem?_cons_succ, List.getElem?_cons_succ]
theorem lay_app (off : Nat) (cs : Array Value) (a o b : List Value) (h : a.length = off) (h2 : o.length = cs.size) : lay off cs (a ++ (o ++ b)).toArray = (a ++ (cs.toList ++ b)).toArray := by
  apply Array.ext'
  show (a ++ (o ++ b)).take off ++ cs.toList ++ (a ++ (o ++ b)).drop (off + cs.size) = a ++ (cs.toList ++ b)
  rw [List.take_left' h, ← List.drop_drop, List.drop_left' h, List.drop_left' h2, List.append_assoc]
theorem lay_rp0 (s0 sd : H32) (p0 p1 : Value) (f : H32) (g v : Int) (tl : List Value) : lay 0 (u8s sd.l) (rpL s0 p0 p1 f g v tl).toArray = (rpL sd p0 p1 f g v tl).toArray :=
  lay_app 0 (u8s sd.l) [] (bs s0.l) _ rfl (by rw [bs_length, s0.len]; exact sd.size.symm)
theorem lay_rp32 (sd : H32) (p0 p0' p1 : Value) (f : H32) (g v : Int) (tl : List Value) : lay 32 #[p0'] (rpL sd p0 p1 f g v tl).toArray = (rpL sd p0' p1 f g v tl).toArray :=
  lay_app 32 #[p0'] (bs sd.l) [p0] _ (bsl sd) rfl
theorem lay_rp33 (sd : H32) (p0 p1 p1' : Value) (f : H32) (g v : Int) (tl : List Value) : lay 33 #[p1'] (rpL sd p0 p1 f g v tl).toArray = (rpL sd p0 p1' f g v tl).toArray := by
  have h := lay_app 33 #[p1'] (bs sd.l ++ [p0]) [p1] (bs f.l ++ (.int .i64 g :: .int .i64 v :: tl)) (by rw [List.length_append, bsl]; rfl) rfl
  rw [List.append_assoc, List.append_assoc] at h
  exact h
theorem rp_pre (sd : H32) (p0 p1 : Value) : (bs sd.l ++ [p0, p1]).length = 34 := by simp [bs_length]
theorem rp_cut (sd : H32) (p0 p1 : Value) (f : H32) (g v : Int) (tl : List Value) : rpL sd p0 p1 f g v tl = (bs sd.l ++ [p0, p1] ++ bs f.l) ++ ([.int .i64 g] ++ (.int .i64 v :: tl)) := by simp [rpL]
theorem lay_rp66 (sd : H32) (p0 p1 : Value) (f : H32) (g g' v : Int) (tl : List Value) : lay 66 #[.int .i64 g'] (rpL sd p0 p1 f g v tl).toArray = (rpL sd p0 p1 f g' v tl).toArray := by
  rw [rp_cut, rp_cut]
  exact lay_app 66 #[.int .i64 g'] (bs sd.l ++ [p0, p1] ++ bs f.l) [.int .i64 g] _ (by simp [bs_length]) rfl
theorem rp_cut34 (sd : H32) (p0 p1 : Value) (f : H32) (g v : Int) (tl : List Value) : rpL sd p0 p1 f g v tl = (bs sd.l ++ [p0, p1]) ++ (bs f.l ++ (.int .i64 g :: .int .i64 v :: tl)) := by simp [rpL]
theorem lay_rp34 (sd : H32) (p0 p1 : Value) (f f' : H32) (g v : Int) (tl : List Value) : lay 34 (u8s f'.l) (rpL sd p0 p1 f g v tl).toArray = (rpL sd p0 p1 f' g v tl).toArray := by
  rw [rp_cut34, rp_cut34]
  exact lay_app 34 (u8s f'.l) (bs sd.l ++ [p0, p1]) (bs f.l) _ (rp_pre sd p0 p1) (by rw [bs_length, f.len]; exact f'.size.symm)
theorem run_newRp (sd : H32) (a0 a1 : Option Addr) (w : World) : (Instr.build 73 #[(0, .agg (u8s sd.l)), (1, .pointer a0), (2, .pointer a1), (4, .int .i64 1)]).run Tryz.prog w = .ok (.agg (rpL sd (.pointer a0) (.pointer a1) zeroH 1 0 rpTl).toArray) w := by
  refine run_build_struct Tryz.underlying73 (zv := .agg (rpL zeroH (.pointer none) (.pointer none) zeroH 0 0 rpTl).toArray) (fun _ => by kernel_rfl) (places := #[(0, 32), (32, 1), (33, 1), (34, 32), (66, 1), (67, 1), (68, 1), (69, 6), (75, 1)]) (fun _ => by kernel_rfl) ?_ w
  have hl : ∀ s p0 p1 f g v, (rpL s p0 p1 f g v rpTl).toArray.size = 76 := fun s p0 p1 f g v => rpL_len s p0 p1 f g v rpTl rfl
  show Instr.fill _ (rpL zeroH (.pointer none) (.pointer none) zeroH 0 0 rpTl).toArray [(0, .agg (u8s sd.l)), (1, .pointer a0), (2, .pointer a1), (4, .int .i64 1)] = _
  rw [fill_step _ _ 0 _ _ (off := 0) (size := 32) rfl (by show (u8s sd.l).size = 32; exact sd.size) (by rw [hl]; decide)]
  rw [show lay 0 (Value.agg (u8s sd.l)).cells (rpL zeroH (.pointer none) (.pointer none) zeroH 0 0 rpTl).toArray = (rpL sd (.pointer none) (.pointer none) zeroH 0 0 rpTl).toArray from lay_rp0 zeroH sd _ _ _ _ _ _]
  rw [fill_step _ _ 1 _ _ (off := 32) (size := 1) rfl rfl (by rw [hl]; decide)]
  rw [show lay 32 (Value.pointer a0).cells (rpL sd (.pointer none) (.pointer none) zeroH 0 0 rpTl).toArray = (rpL sd (.pointer a0) (.pointer none) zeroH 0 0 rpTl).toArray from lay_rp32 _ _ _ _ _ _ _ _]
  rw [fill_step _ _ 2 _ _ (off := 33) (size := 1) rfl rfl (by rw [hl]; decide)]
  rw [show lay 33 (Value.pointer a1).cells (rpL sd (.pointer a0) (.pointer none) zeroH 0 0 rpTl).toArray = (rpL sd (.pointer a0) (.pointer a1) zeroH 0 0 rpTl).toArray from lay_rp33 _ _ _ _ _ _ _ _]
  rw [fill_step _ _ 4 _ _ (off := 66) (size := 1) rfl rfl (by rw [hl]; decide)]
  rw [show lay 66 (Value.int .i64 1).cells (rpL sd (.pointer a0) (.pointer a1) zeroH 0 0 rpTl).toArray = (rpL sd (.pointer a0) (.pointer a1) zeroH 1 0 rpTl).toArray from lay_rp66 _ _ _ _ _ _ _ _]
  rfl
/-- the seed of the key of this generation -/
def kSeed (sd : H32) (g : Int) : H32 := shaH (sd.l ++ [b8 g])
theorem run_gen (g : Int) (w : World) : (Instr.buildSlice 29 1 #[(0, .int .u8 (g % 256))]).run Tryz.prog w = .ok (.slice (some ⟨w.heap.size, 0, none⟩) 1 1) (w.alloc (.cells (u8s [b8 g]) 5)) := by rw [mod_b8]; kernel_rfl
set_option maxRecDepth 100000 in
set_option maxHeartbeats 1600000 in
theorem keyOf_calls (sd : H32) (g : Int) (w : World) :
    Calls Tryz.prog 23 #[.agg (u8s sd.l), .int .i64 g] w fun e w' => ∃ zk, e = .returned (.pointer (some ⟨zk, 0, none⟩)) ∧ Step nowhere w w' ∧ NewB w zk ∧ KeyAt w' zk (kSeed sd g) 0 := by
  have kb := run_gen g
  go_enter Tryz.func23, Tryz.ntmps23
  go_wp2_with (first | ((with_reducible apply wpl_bslice); (exact kb _); intro zb wb _ _ _) | ((with_reducible apply (wpl_box_agg (dst := some 2))); (exact rfl); intro zs wzs _ _ _) | ((with_reducible apply wpl_loadrow); (exact rfl); infer_instance; infer_instance; (first | (with_reducible assumption) | (with_reducible exact H32.size _) | kernel_rfl)))
  refine (link_calls sd.l (some ⟨zb, 0, none⟩) 1 1 [b8 g] _ sd.len (by have h := (inferInstance : HR wb (some (⟨zb, 0, none⟩ : Addr)) (bs [b8 g])).out; exact h) rfl (by decide)).mono ?_
  rintro e w5 ⟨rfl, hc5⟩
  have st5 : Step nowhere wb w5 := ⟨hc5.out⟩
  clear hc5
  go_wp2_with fail
  refine (new_calls (kSeed sd g) 0 _).mono ?_
  rintro e w6 ⟨zk, rfl, st6, hz, hk⟩
  go_wp2_with fail
  go_ret
  refine ⟨zk, rfl, stepN, ⟨?_⟩, hk⟩
  exact Nat.le_trans (stepN (w0 := w) (w := w5)).chg.size hz.out
end Go.Proofs.YtgjnjhhhbkidbaaGreat
end
section
open Go Go.RowKit
namespace Go.Proofs.YtgjnjhhhbkidbaaGreat
theorem nilTgs (A : Option Addr) (n c : Nat) (w : World) : (binOp .eql 40 (.slice A n c) (.slice none 0 0)).run Tryz.prog w = .ok (.bool A.isNone) w :=
  Lib.run_eql_slice_nil w 40 42 A n c 0 0 Tryz.underlying40
attribute [local go_sem] nilTgs
/-- a list of it alone may be -/
def mayL : List UInt8 := [116, 111, 112]
def mayR (t : TargetR) : Bool := tgsOk mayL 1 0 [t] []
end Go.Proofs.YtgjnjhhhbkidbaaGreat
end
section
open Go Go.RowKit
namespace Go.Proofs.YtgjnjhhhbkidbaaGreat
theorem run_emB (w : World) : (Instr.buildSlice 29 0 #[]).run Tryz.prog w = .ok (.slice (some ⟨w.heap.size, 0, none⟩) 0 0) (w.alloc (.cells (u8s []) 5)) := by kernel_rfl
theorem run_emH (w : World) : (Instr.buildSlice 89 0 #[]).run Tryz.prog w = .ok (.slice (some ⟨w.heap.size, 0, none⟩) 0 0) (w.alloc (.cells #[] 23)) := by kernel_rfl
theorem run_emM (w : World) : (Instr.buildSlice 30 0 #[]).run Tryz.prog w = .ok (.slice (some ⟨w.heap.size, 0, none⟩) 0 0) (w.alloc (.cells #[] 133)) := by kernel_rfl
theorem nilRB (A : Option Addr) (n c : Nat) (w : World) : (binOp .eql 29 (.slice A n c) (.slice none 0 0)).run Tryz.prog w = .ok (.bool A.isNone) w :=
  Lib.run_eql_slice_nil w 29 5 A n c 0 0 Tryz.underlying29
theorem nilRH (A : Option Addr) (n c : Nat) (w : World) : (binOp .eql 89 (.slice A n c) (.slice none 0 0)).run Tryz.prog w = .ok (.bool A.isNone) w :=
  Lib.run_eql_slice_nil w 89 23 A n c 0 0 Tryz.underlying89
theorem nilRM (A : Option Addr) (n c : Nat) (w : World) : (binOp .eql 30 (.slice A n c) (.slice none 0 0)).run Tryz.prog w = .ok (.bool A.isNone) w :=
  Lib.run_eql_slice_nil w 30 133 A n c 0 0 Tryz.underlying30
attribute [local go_sem] nilRB nilRH nilRM
instance factNilR : Fact' (([] : List UInt8).length ≤ maxLen) := ⟨Nat.zero_le _⟩
theorem nil_of_none {w : World} {vs : List Value} (h : Rd w none vs) : vs = [] := by
  cases vs with
  | nil => rfl
  | cons x l =>
    obtain ⟨ad, h, _⟩ := h.lt (by simp)
    cases h
theorem HO.ofEH (w : World) (z : Nat) [h : HB w z 23 #[]] : HO w 23 32 (some ⟨z, 0, none⟩) 0 0 (cellsOf ([] : List H32)) := ⟨Own.of_blk h.out (Nat.le_refl _) (Nat.zero_le _) (by simp) (by simp [cellsOf])⟩
theorem HO.ofEM (w : World) (z : Nat) [h : HB w z 133 #[]] : HO w 133 35 (some ⟨z, 0, none⟩) 0 0 (cellsOf ([] : List MarkR)) := ⟨Own.of_blk h.out (Nat.le_refl _) (Nat.zero_le _) (by simp) (by simp [cellsOf])⟩
set_option maxRecDepth 100000 in
set_option maxHeartbeats 1600000 in
theorem cloneBy_calls {A : Option Addr} {n c : Nat} {l : List UInt8} {w : World} [h : HR w A (bs l)] (hl : l.length = n) (hm : n ≤ 1000000) :
    Calls Tryz.prog 73 #[.slice A n c] w fun e w' => ∃ A' c', e = .returned (.slice A' n c') ∧ Step nowhere w w' ∧ HO w' 5 1 A' n c' (bs l) ∧ NewA w A' := by
  cases A with
  | none =>
    have h0 := nil_of_none h.out
    have hx : l = [] := by
      have h1 := congrArg List.length h0
      rw [bs_length] at h1
      cases l with
      | nil => rfl
      | cons x l => simp at h1
    subst hx
    subst hl
    go_enter Tryz.func73, Tryz.ntmps73
    go_wp2_with fail
    go_ret
    exact ⟨none, 0, rfl, stepN, ⟨Own.nil _ _ _⟩, newA_none _⟩
  | some ad =>
    go_enter Tryz.func73, Tryz.ntmps73
    go_wp2_with (first | ((with_reducible apply (stop_dst (dst := some 5))); (try simp only [Act.put, sA, sB, sC]); ((with_reducible apply (wpl_bslice (dst := some 5))); (exact run_emB _); intro zb wb _ _ _)) | ((with_reducible apply wpl_appendB); (exact rfl); (exact rfl); infer_instance; infer_instance; infer_instance; (exact hl); omega; intro A' c' wa _ ho _ hcap))
    go_ret
    exact ⟨A', c', by simp, stepN, ⟨by have h5 := ho.out; simpa using h5⟩, inferInstance⟩
set_option maxRecDepth 100000 in
set_option maxHeartbeats 1600000 in
theorem cloneHs_calls {A : Option Addr} {n c : Nat} {l : List H32} {w : World} [h : HR w A (cellsOf l)] (hl : l.length = n) (hm : n ≤ 1000000) :
    Calls Tryz.prog 75 #[.slice A n c] w fun e w' => ∃ A' c', e = .returned (.slice A' n c') ∧ Step nowhere w w' ∧ HO w' 23 32 A' n c' (cellsOf l) ∧ NewA w A' := by
  cases A with
  | none =>
    have h0 := nil_of_none h.out
    have hx : l = [] := by
      have h1 := congrArg List.length h0
      rw [cellsOf_len] at h1
      cases l with
      | nil => rfl
      | cons x l => simp at h1
    subst hx
    subst hl
    go_enter Tryz.func75, Tryz.ntmps75
    go_wp2_with fail
    go_ret
    exact ⟨none, 0, rfl, stepN, ⟨Own.nil _ _ _⟩, newA_none _⟩
  | some ad =>
    go_enter Tryz.func75, Tryz.ntmps75
    go_wp2_with (first | ((with_reducible apply (stop_dst (dst := some 5))); (try simp only [Act.put, sA, sB, sC]); ((with_reducible apply (wpl_bslice (dst := some 5))); (exact run_emH _); intro zb wb _ _ _)) | ((with_reducible apply (wpl_appendR (α := H32))); (exact rfl); (exact rfl); infer_instance; (exact HO.ofEH _ _); infer_instance; (exact rfl); (exact hl); omega; (decide); (decide); intro A' c' wa _ ho _ hcap))
    go_ret
    exact ⟨A', c', by simp, stepN, ⟨by have h5 := ho.out; simpa using h5⟩, inferInstance⟩
set_option maxRecDepth 100000 in
set_option maxHeartbeats 1600000 in
theorem cloneMs_calls {A : Option Addr} {n c : Nat} {l : List MarkR} {w : World} [h : HR w A (cellsOf l)] (hl : l.length = n) (hm : n ≤ 1000000) :
    Calls Tryz.prog 74 #[.slice A n c] w fun e w' => ∃ A' c', e = .returned (.slice A' n c') ∧ Step nowhere w w' ∧ HO w' 133 35 A' n c' (cellsOf l) ∧ NewA w A' := by
  cases A with
  | none =>
    have h0 := nil_of_none h.out
    have hx : l = [] := by
      have h1 := congrArg List.length h0
      rw [cellsOf_len] at h1
      cases l with
      | nil => rfl
      | cons x l => simp at h1
    subst hx
    subst hl
    go_enter Tryz.func74, Tryz.ntmps74
    go_wp2_with fail
    go_ret
    exact ⟨none, 0, rfl, stepN, ⟨Own.nil _ _ _⟩, newA_none _⟩
  | some ad =>
    go_enter Tryz.func74, Tryz.ntmps74
    go_wp2_with (first | ((with_reducible apply (stop_dst (dst := some 5))); (try simp only [Act.put, sA, sB, sC]); ((with_reducible apply (wpl_bslice (dst := some 5))); (exact run_emM _); intro zb wb _ _ _)) | ((with_reducible apply (wpl_appendR (α := MarkR))); (exact rfl); (exact rfl); infer_instance; (exact HO.ofEM _ _); infer_instance; (exact rfl); (exact hl); omega; (decide); (decide); intro A' c' wa _ ho _ hcap))
    go_ret
    exact ⟨A', c', by simp, stepN, ⟨by have h5 := ho.out; simpa using h5⟩, inferInstance⟩
end Go.Proofs.YtgjnjhhhbkidbaaGreat
end
