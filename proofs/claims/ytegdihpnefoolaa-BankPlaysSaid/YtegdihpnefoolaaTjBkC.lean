/- BkC -/
import Derived.Test.YtegdihpnefoolaaTjSlH
open Go Go.RowKit Go.Shelf
namespace Go.Proofs.Ytegdihpnefoolaa
attribute [local go_sem] Oper.semAt_some
/-- the piece number x of a row of len bytes at A -/
def chunkA (A : Option Addr) (x : Nat) : Option Addr := A.map fun ad => ⟨ad.block, ad.off + 64 * x, none⟩
def chunkW (A : Option Addr) (len x : Nat) : Value := .slice (chunkA A x) (chunkC len x) (chunkC len x)
set_option maxRecDepth 100000 in
set_option maxHeartbeats 2000000 in
theorem chunkW1_in (F : Fence) (n : Nat) (h : F.fn 95) (hro : F.round = none) (hn : 1 ≤ n) (l Bs Bn n₀ len cap B : Nat) (A : Option Addr) (hA : 0 < len → ∃ z o, A = some ⟨z, o, none⟩) (hl : len ≤ 1000000) (hcap : len ≤ cap) (hs : Bs < n₀) (hbn : Bn < n₀) (J Jx : List Nat → World → Prop) (hJ : AbidesFrom B J)
    (hY : ∀ pre x W, J pre W → pre.length < manyC len → YieldAt F (n - 1) Try.prog l #[chunkW A len x] W fun e W' =>
      (e = .returned (.bool true) ∧ J (pre ++ [x]) W' ∧ Below n₀ W W') ∨ (e = .returned (.bool false) ∧ Jx (pre ++ [x]) W'))
    (W : World) (hBs : W.cell? ⟨Bs, 0, none⟩ = some (.slice A len cap)) (hBn : W.cell? ⟨Bn, 0, none⟩ = some (.int .i64 64)) (h0 : J [] W) :
    CallsIn F n Try.prog 95 #[.func (.yield l) #[] #[], .pointer (some ⟨Bs, 0, none⟩), .pointer (some ⟨Bn, 0, none⟩)] W fun e W' => (∃ v, e = .returned v) ∧
      ((∃ ys, ys = List.range (manyC len) ∧ J ys W') ∨ (∃ pre, pre <+: List.range (manyC len) ∧ Jx pre W')) := by
  refine callsIn_of_wp Try.func95 rfl h ?_ hro
  simp only [Try.ntmps95, List.size_toArray, List.length_cons, List.length_nil, Nat.reduceAdd, Nat.reduceSub, Array.replicate_succ, Array.replicate_zero, List.push_toArray, List.append_toArray, List.nil_append, List.cons_append]
  gi_wp2
  gi_loopw [4] (fun i wr => ∃ k : Nat, k ≤ manyC len ∧ i = .int .i64 ((64 * k : Nat) : Int) ∧ J (List.range k) wr ∧ Below n₀ W wr)
    (fun i _ => manyC len + 1 - (intOf i).toNat / 64)
  case atStart => exact ⟨0, Nat.zero_le _, rfl, h0, Below.refl _ _⟩
  case round =>
    obtain ⟨k, hk, rfl, hJs, hnx⟩ := hrel
    have hcs : wr.cell? ⟨Bs, 0, none⟩ = some (.slice A len cap) := (hnx.cell (p := ⟨Bs, 0, none⟩) hs).trans hBs
    have hcn : wr.cell? ⟨Bn, 0, none⟩ = some (.int .i64 64) := (hnx.cell (p := ⟨Bn, 0, none⟩) hbn).trans hBn
    by_cases hlt : 64 * k < len
    · have hltI : ((64 * k : Nat) : Int) < (len : Int) := by omega
      have hkm : k < manyC len := by unfold manyC; omega
      obtain ⟨z, o, rfl⟩ := hA (by omega)
      obtain ⟨fn, tmps, assign, body, hy, hR⟩ := hY _ k wr.drew (hJ _ wr wr.drew none hJs ⟨rfl, rfl, rfl, Nat.le_refl _, fun _ _ _ => rfl⟩ (fun r e => by cases e)) (by rw [List.length_range]; exact hkm)
      have hcv : chunkW (some ⟨z, o, none⟩) len k = .slice (some ⟨z, o + 64 * k, none⟩) (chunkC len k) (chunkC len k) := rfl
      rw [hcv] at hy
      unfold chunkC at hy
      clear hcv
      gi_wp2
      gi_region
      all_goals gi_wp2
      all_goals
        refine hR.mono ?_
        rintro e W3 (⟨rfl, hJ3, hk3⟩ | ⟨rfl, hJx3⟩)
        · have hcn3 : W3.cell? ⟨Bn, 0, none⟩ = some (.int .i64 64) := (hk3.cell (p := ⟨Bn, 0, none⟩) hbn).trans hcn
          gi_wp2
          go_roundw
          case rel => exact ⟨k + 1, by omega, by go_num, by rw [List.range_succ]; exact hJ3, hnx.drew.trans hk3⟩
          case measure => simp [intOf]; omega
        · gi_wp2
          refine bodyPost_ret (results_none rfl _ _ _) rfl ?_
          exact ⟨⟨_, rfl⟩, .inr ⟨_, (by rw [← List.range_succ]; exact range_pre _ _ (by omega)), hJx3⟩⟩
    · have hltI : ¬ ((64 * k : Nat) : Int) < (len : Int) := by omega
      have hkm : k = manyC len := by unfold manyC at *; omega
      gi_wp2
      go_end0
      exact ⟨⟨_, rfl⟩, .inl (hkm ▸ hJs)⟩
def chunksW (A : Option Addr) (len k : Nat) : List Value := (List.range k).map (chunkW A len)
theorem chunksW_len (A : Option Addr) (len k : Nat) : (chunksW A len k).length = k := by simp [chunksW]
theorem chunksW_get {A : Option Addr} {len k x : Nat} (h : x < k) : (chunksW A len k)[x]? = some (.slice (chunkA A x) (chunkC len x) (chunkC len x)) := by
  simp [chunksW, h, chunkW]
set_option maxRecDepth 100000 in
set_option maxHeartbeats 2000000 in
theorem appendSeqW_in (F : Fence) (n : Nat) (h69 : F.fn 94) (h70 : F.fn 95) (hro : F.round = none) (hn : 3 ≤ n) (Bs Bn len cap : Nat) (A : Option Addr) (hA : 0 < len → ∃ z o, A = some ⟨z, o, none⟩) (hl : len ≤ 1000000) (hcap : len ≤ cap) (w : World)
    (hBs : w.cell? ⟨Bs, 0, none⟩ = some (.slice A len cap)) (hBn : w.cell? ⟨Bn, 0, none⟩ = some (.int .i64 64)) (hls : Bs < w.heap.size) (hln : Bn < w.heap.size) :
    CallsIn F n Try.prog 94 #[.slice none 0 0, .func (.func 95) #[] #[.pointer (some ⟨Bs, 0, none⟩), .pointer (some ⟨Bn, 0, none⟩)]] w fun e W' =>
      ∃ v, e = .returned v ∧ W'.ownsRow w.heap.size 22 1 v (manyC len) (chunksW A len (manyC len)) ∧ Below w.heap.size w W' := by
  have h1 : 1 ≤ n := by omega
  obtain ⟨i0, hi, hz0, hz1, hz2⟩ := info_parts infoRow
  refine callsIn_of_wp_marks Try.func94 rfl h69 ?_ hro
  simp only [Try.ntmps94, List.size_toArray, List.length_cons, List.length_nil, Nat.reduceAdd, Nat.reduceSub, Array.replicate_succ, Array.replicate_zero, List.push_toArray, List.append_toArray, List.nil_append, List.cons_append]
  gi_wp2
  have bO := Boxed.new w 61 (.slice none 0 0)
  have hB0 : Below w.heap.size w (w.alloc (.cells #[.slice none 0 0] 61)) := (Below.refl _ w).alloc (Nat.le_refl _) _
  refine wpIn_rangeFunc_ownG hro h1 (gf := 95) (lb := #[.pointer (some ⟨Bs, 0, none⟩), .pointer (some ⟨Bn, 0, none⟩)]) rfl h70 (enters_of Try.func95 (by kernel_rfl) rfl)
    (encs := fun x : Nat => #[chunkW A len x]) (Kp := Below w.heap.size) (S := fun ys => ys = List.range (manyC len)) (Sp := fun pre => pre <+: List.range (manyC len)) (N := manyC len) (w0 := w)
    (fun l J Jx W hW hJ _ hY h0 => chunkW1_in F (n - 1) h70 hro (by omega) l Bs Bn w.heap.size len cap _ A hA hl hcap hls hln J Jx hJ hY W ((hW.cell (p := ⟨Bs, 0, none⟩) hls).trans hBs) ((hW.cell (p := ⟨Bn, 0, none⟩) hln).trans hBn) h0)
    belowK_t (belowK_b (by simp)) hB0 (fun _ => rfl)
    (fun pre W => (∃ v, Boxed W w.heap.size 61 v ∧ W.ownsRow w.heap.size 22 1 v (List.length pre) (pre.map (chunkW A len)) ∧ True) ∧ Below w.heap.size w W)
    (fun _ _ _ => False)
    (OwnFrom.and (Own.from (holdsRow_own w.heap.size w.heap.size 61 22 1 (fun pre : List Nat => pre.length) (fun pre => pre.map (chunkW A len)) (fun _ _ => True)) _) (ownFrom_below (Nat.le_refl _) (by simp)))
    (fun _ _ _ _ _ hs _ _ => hs)
    ⟨⟨_, bO, World.ownsRow_nil _ _ _ _, trivial⟩, hB0⟩
    (fun x => { tmps := #[.slice none 0 0, .func (.func 95) #[] #[.pointer (some ⟨Bs, 0, none⟩), .pointer (some ⟨Bn, 0, none⟩)], .pointer (some ⟨w.heap.size, 0, none⟩), undef, .slice none 0 0, .slice (chunkA A x) (chunkC len x) (chunkC len x), .func (.func 95) #[] #[.pointer (some ⟨Bs, 0, none⟩), .pointer (some ⟨Bn, 0, none⟩)], .slice (chunkA A x) (chunkC len x) (chunkC len x), undef, undef, undef, undef, undef], defers := [] }) ?assign ?body ?done ?stop
  case assign =>
    intro l x W K hK
    unfold chunkW
    gi_wp2
    exact hK
  case body =>
    rintro l pre x W ⟨⟨v, hv, hrow, _⟩, hB⟩ hlt
    have hc := hv.cell
    have hm : manyC len ≤ 15626 := by unfold manyC; omega
    have hmx : pre.length + 1 ≤ maxLen := by unfold maxLen; omega
    have hby : (pre.length + 1) * 24 ≤ 140737488355328 := by omega
    gi_wp2_with (gi_at_builtin; refine wpListIn_append_own _ rfl _ _ 61 rfl w.heap.size 22 i0 (.slice none 0 0) 1 24 Try.underlying61 hi hz0 hz1 hz2 rfl (by decide) _ _ _ rfl (hrow.alloc _) ⟨W.heap.size, 0, none⟩ 1 1 [.slice (chunkA A x) (chunkC len x) (chunkC len x)] rfl rfl (cell_one_new _ _ _) (by simp [Value.oneCell']) hmx hby (by have := hB.size; simp; omega) ?_; intro v' w1 hown' hgrow _; obtain ⟨g', cap', rfl⟩ := ownsRow_succ hown'; obtain ⟨hv1, hv2, hr2, hk2, hb2⟩ := hv.appended (by decide) hrow hB.size (Nat.le_refl _) hown' hgrow; have hc1 := hv1.cell; have hf1 := hv1.frozen)
    exact ⟨hk2.from _, hb2, ⟨_, hv2, by simpa [chunkW] using hr2, trivial⟩, hB.trans hb2⟩
  case done =>
    rintro D ys W hD rfl ⟨⟨v, hv, hrow, _⟩, hB⟩ hK
    have hc := hv.cell
    gi_wp2
    refine ⟨by simp, .inl ⟨_, _, rfl, run_takeDeferred hK, ?_⟩⟩
    rw [List.length_range] at hrow
    exact ⟨_, results_tmp rfl _ _ _, v, rfl, ownsRow_putObj hrow _ hK rfl, hB.trans (belowK_b (w := w) (Nat.le_refl _) W D _ _ (by simp at hD; omega) hK rfl rfl)⟩
  case stop =>
    rintro D c pre W _ _ h _
    exact h.elim
set_option maxRecDepth 100000 in
theorem collectW_calls {Bs Bn len cap : Nat} {A : Option Addr} {w : World} (hA : 0 < len → ∃ z o, A = some ⟨z, o, none⟩) (hl : len ≤ 1000000) (hcap : len ≤ cap) (hBs : HB w Bs 22 #[.slice A len cap]) (hBn : HB w Bn 3 #[.int .i64 64]) :
    Calls Try.prog 69 #[.func (.func 95) #[] #[.pointer (some ⟨Bs, 0, none⟩), .pointer (some ⟨Bn, 0, none⟩)]] w fun e w' => ∃ L c, e = .returned (.slice L (manyC len) c) ∧ HO w' 22 1 L (manyC len) c (chunksW A len (manyC len)) ∧ manyC len ≤ c ∧ NewA w L ∧ Step nowhere w w' := by
  have h := appendSeqW_in Fence.wide 3 trivial trivial rfl (Nat.le_refl _) Bs Bn len cap A hA hl hcap w (hBs.out.cell 0) (hBn.out.cell 0) hBs.out.lt hBn.out.lt
  have HA := Lib.hid (callsIn_wide.1 h)
  clear h hA
  go_enter Try.func69, Try.ntmps69
  go_wp2_with fail
  refine HA.out.mono ?_
  rintro e w1 ⟨v, rfl, h1, h2⟩
  obtain ⟨L, c, rfl, h3, h4, h5⟩ := rows_ho h1
  go_wp2_with fail
  go_ret
  exact ⟨L, c, rfl, h3, h4, ⟨h5⟩, ⟨below_chg h2⟩⟩
theorem rd_pieceW {w : World} {A : Option Addr} {b : List UInt8} (hA : 0 < b.length → ∃ z o, A = some ⟨z, o, none⟩) (h : Rd w A (bs b)) (x : Nat) : Rd w (chunkA A x) (bs (pieceB b x)) := fun j u hj => by
  have h1 : (bs b)[64 * x + j]? = some u := by
    unfold pieceB at hj
    rw [bs, List.map_take, List.map_drop, List.getElem?_take] at hj
    split at hj
    · rw [List.getElem?_drop] at hj
      exact hj
    · cases hj
  have h0 : 0 < b.length := by
    have := (List.getElem?_eq_some_iff.1 h1).1
    rw [bs_length] at this
    omega
  obtain ⟨z, o, rfl⟩ := hA h0
  refine ⟨⟨z, o + 64 * x, none⟩, rfl, ?_⟩
  obtain ⟨ad, e, hc⟩ := h _ u h1
  injection e with e
  subst e
  rw [add_any]
  rw [add_any, ← Nat.add_assoc] at hc
  exact hc
theorem chunkA_block {A : Option Addr} {x : Nat} {ad : Addr} (h : chunkA A x = some ad) : ∃ ad0, A = some ad0 ∧ ad.block = ad0.block := by
  cases A with
  | none => cases h
  | some a0 =>
    injection h with h
    exact ⟨a0, rfl, by rw [← h]⟩
end Go.Proofs.Ytegdihpnefoolaa
