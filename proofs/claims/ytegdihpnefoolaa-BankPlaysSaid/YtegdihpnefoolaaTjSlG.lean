/- SlG -/
import Derived.Test.YtegdihpnefoolaaTjSlF
open Go Go.RowKit Go.Shelf
namespace Go.Proofs.Ytegdihpnefoolaa
attribute [local go_sem] Oper.semAt_some
theorem infoRow : (Try.prog.info? 22).map (fun i => (i.zero, i.size, i.bytes)) = some (some (.slice none 0 0), 1, 24) := by kernel_rfl
def chunksV (z len k : Nat) : List Value := (List.range k).map (chunkV z len)
theorem chunksV_len (z len k : Nat) : (chunksV z len k).length = k := by simp [chunksV]
set_option maxRecDepth 100000 in
set_option maxHeartbeats 2000000 in
theorem appendSeq_in (F : Fence) (n : Nat) (h69 : F.fn 94) (h70 : F.fn 95) (hro : F.round = none) (hn : 3 ≤ n) (Bs Bn z len cap : Nat) (hl : len ≤ 1000000) (hcap : len ≤ cap) (w : World)
    (hBs : w.cell? ⟨Bs, 0, none⟩ = some (.slice (some ⟨z, 0, none⟩) len cap)) (hBn : w.cell? ⟨Bn, 0, none⟩ = some (.int .i64 64)) (hls : Bs < w.heap.size) (hln : Bn < w.heap.size) :
    CallsIn F n Try.prog 94 #[.slice none 0 0, .func (.func 95) #[] #[.pointer (some ⟨Bs, 0, none⟩), .pointer (some ⟨Bn, 0, none⟩)]] w fun e W' =>
      ∃ v, e = .returned v ∧ W'.ownsRow w.heap.size 22 1 v (manyC len) (chunksV z len (manyC len)) ∧ Below w.heap.size w W' := by
  have h1 : 1 ≤ n := by omega
  obtain ⟨i0, hi, hz0, hz1, hz2⟩ := info_parts infoRow
  refine callsIn_of_wp_marks Try.func94 rfl h69 ?_ hro
  simp only [Try.ntmps94, List.size_toArray, List.length_cons, List.length_nil, Nat.reduceAdd, Nat.reduceSub, Array.replicate_succ, Array.replicate_zero, List.push_toArray, List.append_toArray, List.nil_append, List.cons_append]
  gi_wp2
  have bO := Boxed.new w 61 (.slice none 0 0)
  have hB0 : Below w.heap.size w (w.alloc (.cells #[.slice none 0 0] 61)) := (Below.refl _ w).alloc (Nat.le_refl _) _
  refine wpIn_rangeFunc_ownG hro h1 (gf := 95) (lb := #[.pointer (some ⟨Bs, 0, none⟩), .pointer (some ⟨Bn, 0, none⟩)]) rfl h70 (enters_of Try.func95 (by kernel_rfl) rfl)
    (encs := fun x : Nat => #[chunkV z len x]) (Kp := Below w.heap.size) (S := fun ys => ys = List.range (manyC len)) (Sp := fun pre => pre <+: List.range (manyC len)) (N := manyC len) (w0 := w)
    (fun l J Jx W hW hJ _ hY h0 => chunk1_in F (n - 1) h70 hro (by omega) l Bs Bn w.heap.size z len cap _ hl hcap hls hln J Jx hJ hY W ((hW.cell (p := ⟨Bs, 0, none⟩) hls).trans hBs) ((hW.cell (p := ⟨Bn, 0, none⟩) hln).trans hBn) h0)
    belowK_t (belowK_b (by simp)) hB0 (fun _ => rfl)
    (fun pre W => (∃ v, Boxed W w.heap.size 61 v ∧ W.ownsRow w.heap.size 22 1 v (List.length pre) (pre.map (chunkV z len)) ∧ True) ∧ Below w.heap.size w W)
    (fun _ _ _ => False)
    (OwnFrom.and (Own.from (holdsRow_own w.heap.size w.heap.size 61 22 1 (fun pre : List Nat => pre.length) (fun pre => pre.map (chunkV z len)) (fun _ _ => True)) _) (ownFrom_below (Nat.le_refl _) (by simp)))
    (fun _ _ _ _ _ hs _ _ => hs)
    ⟨⟨_, bO, World.ownsRow_nil _ _ _ _, trivial⟩, hB0⟩
    (fun x => { tmps := #[.slice none 0 0, .func (.func 95) #[] #[.pointer (some ⟨Bs, 0, none⟩), .pointer (some ⟨Bn, 0, none⟩)], .pointer (some ⟨w.heap.size, 0, none⟩), undef, .slice none 0 0, .slice (some ⟨z, 64 * x, none⟩) (chunkC len x) (chunkC len x), .func (.func 95) #[] #[.pointer (some ⟨Bs, 0, none⟩), .pointer (some ⟨Bn, 0, none⟩)], .slice (some ⟨z, 64 * x, none⟩) (chunkC len x) (chunkC len x), undef, undef, undef, undef, undef], defers := [] }) ?assign ?body ?done ?stop
  case assign =>
    intro l x W K hK
    gi_wp2
    exact hK
  case body =>
    rintro l pre x W ⟨⟨v, hv, hrow, _⟩, hB⟩ hlt
    have hc := hv.cell
    have hm : manyC len ≤ 15626 := by unfold manyC; omega
    have hmx : pre.length + 1 ≤ maxLen := by unfold maxLen; omega
    have hby : (pre.length + 1) * 24 ≤ 140737488355328 := by omega
    gi_wp2_with (gi_at_builtin; refine wpListIn_append_own _ rfl _ _ 61 rfl w.heap.size 22 i0 (.slice none 0 0) 1 24 Try.underlying61 hi hz0 hz1 hz2 rfl (by decide) _ _ _ rfl (hrow.alloc _) ⟨W.heap.size, 0, none⟩ 1 1 [.slice (some ⟨z, 64 * x, none⟩) (chunkC len x) (chunkC len x)] rfl rfl (cell_one_new _ _ _) (by simp [Value.oneCell']) hmx hby (by have := hB.size; simp; omega) ?_; intro v' w1 hown' hgrow _; obtain ⟨g', cap', rfl⟩ := ownsRow_succ hown'; obtain ⟨hv1, hv2, hr2, hk2, hb2⟩ := hv.appended (by decide) hrow hB.size (Nat.le_refl _) hown' hgrow; have hc1 := hv1.cell; have hf1 := hv1.frozen)
    exact ⟨hk2.from _, hb2, ⟨_, hv2, by simpa [chunkV] using hr2, trivial⟩, hB.trans hb2⟩
  case done =>
    rintro D ys W hD rfl ⟨⟨v, hv, hrow, _⟩, hB⟩ hK
    have hc := hv.cell
    gi_wp2
    refine ⟨by simp, .inl ⟨_, _, rfl, run_takeDeferred hK, ?_⟩⟩
    rw [List.length_range] at hrow
    exact ⟨_, results_tmp rfl _ _ _, v, rfl, ownsRow_putObj hrow _ hK rfl, hB.trans (belowK_b (w := w) (Nat.le_refl _) W D _ _ (by simp at hD; omega) hK rfl rfl)⟩
  case stop =>
    rintro D c pre W _ _ h _
    exact h.elim
/-- the pieces of a row of bytes, in its own block -/
def pieceB (b : List UInt8) (x : Nat) : List UInt8 := (b.drop (64 * x)).take 64
def pieceR (z : Nat) (b : List UInt8) (x : Nat) : Row := ⟨some ⟨z, 64 * x, none⟩, chunkC b.length x, pieceB b x⟩
def piecesR (z : Nat) (b : List UInt8) : List Row := (List.range (manyC b.length)).map (pieceR z b)
theorem pieceB_len (b : List UInt8) (x : Nat) : (pieceB b x).length = chunkC b.length x := by
  rw [chunkC_eq, pieceB, List.length_take, List.length_drop]
theorem rows_ho {B : Nat} {w : World} {e : TypeId} {v : Value} {n : Nat} {xs : List Value} (h : w.ownsRow B e 1 v n xs) : ∃ A c, v = .slice A n c ∧ HO w e 1 A n c xs ∧ n ≤ c ∧ ∀ ad, A = some ad → B ≤ ad.block := by
  obtain ⟨hl, h⟩ := h
  rcases h with ⟨rfl, rfl⟩ | ⟨g, cap, cur, rfl, hB, h1, h2, h3, h4, h5⟩
  · exact ⟨none, 0, rfl, ⟨hl, .inl ⟨rfl, rfl⟩⟩, Nat.le_refl _, fun ad e => by cases e⟩
  · exact ⟨_, cap, rfl, ⟨hl, .inr ⟨g, cap, cur, rfl, Nat.zero_le _, h1, h2, h3, h4, h5⟩⟩, h2, fun ad e => by injection e with e; subst e; exact hB⟩
theorem below_chg {w w' : World} (h : Below w.heap.size w w') : Chg nowhere w w' := ⟨h.os, h.tape, h.output, h.size, fun x hx _ => h.block x hx⟩
set_option maxRecDepth 100000 in
theorem collect_calls {Bs Bn z len cap : Nat} {w : World} (hl : len ≤ 1000000) (hcap : len ≤ cap) (hBs : HB w Bs 22 #[.slice (some ⟨z, 0, none⟩) len cap]) (hBn : HB w Bn 3 #[.int .i64 64]) :
    Calls Try.prog 69 #[.func (.func 95) #[] #[.pointer (some ⟨Bs, 0, none⟩), .pointer (some ⟨Bn, 0, none⟩)]] w fun e w' => ∃ A c, e = .returned (.slice A (manyC len) c) ∧ HO w' 22 1 A (manyC len) c (chunksV z len (manyC len)) ∧ manyC len ≤ c ∧ NewA w A ∧ Step nowhere w w' := by
  have h := appendSeq_in Fence.wide 3 trivial trivial rfl (Nat.le_refl _) Bs Bn z len cap hl hcap w (hBs.out.cell 0) (hBn.out.cell 0) hBs.out.lt hBn.out.lt
  have HA := Lib.hid (callsIn_wide.1 h)
  clear h
  go_enter Try.func69, Try.ntmps69
  go_wp2_with fail
  refine HA.out.mono ?_
  rintro e w1 ⟨v, rfl, h1, h2⟩
  obtain ⟨A, c, rfl, h3, h4, h5⟩ := rows_ho h1
  go_wp2_with fail
  go_ret
  exact ⟨A, c, rfl, h3, h4, ⟨h5⟩, ⟨below_chg h2⟩⟩
end Go.Proofs.Ytegdihpnefoolaa
