/- RsG -/
import Derived.Test.YtgjnjhhhbkidbaaGreatUaRlJ
import Derived.Test.YtgjnjhhhbkidbaaGreatUaRpE
import Derived.Test.YtgjnjhhhbkidbaaGreatUaSnB
import Derived.Test.YtgjnjhhhbkidbaaGreatUaWsB
open Go Go.RowKit
namespace Go.Proofs.YtgjnjhhhbkidbaaGreat
theorem rp_head (sd : H32) (p0 p1 : Value) (f : H32) (g v : Int) (tl : List Value) : rpL sd p0 p1 f g v tl = (bs sd.l ++ [p0, p1] ++ bs f.l ++ [Value.int .i64 g, Value.int .i64 v]) ++ tl := by simp [rpL]
theorem rp_headl (sd : H32) (p0 p1 : Value) (f : H32) (g v : Int) : (bs sd.l ++ [p0, p1] ++ bs f.l ++ [Value.int .i64 g, Value.int .i64 v]).length = 68 := by simp [bs_length]
theorem rp_putn (sd : H32) (p0 p1 : Value) (f : H32) (g v : Int) (tl : List Value) (i n : Nat) (vs : List Value) : (rpL sd p0 p1 f g v tl).toArray.toList.take (68 + i) ++ vs ++ (rpL sd p0 p1 f g v tl).toArray.toList.drop (68 + i + n) = rpL sd p0 p1 f g v (tl.take i ++ vs ++ tl.drop (i + n)) := by
  have hl := rp_headl sd p0 p1 f g v
  show (rpL sd p0 p1 f g v tl).take (68 + i) ++ vs ++ (rpL sd p0 p1 f g v tl).drop (68 + i + n) = _
  rw [rp_head, rp_head]
  obtain ⟨H, hH⟩ : ∃ H, H = bs sd.l ++ [p0, p1] ++ bs f.l ++ [Value.int .i64 g, Value.int .i64 v] := ⟨_, rfl⟩
  rw [← hH] at hl ⊢
  rw [List.take_append, List.take_of_length_le (by omega), hl, Nat.add_sub_cancel_left, List.drop_append, List.drop_of_length_le (by omega), hl, show 68 + i + n - 68 = i + n by omega, List.nil_append]
  simp [List.append_assoc]
theorem rp_setn (sd : H32) (p0 p1 : Value) (f : H32) (g v : Int) (tl : List Value) (i : Nat) (y : Value) : (rpL sd p0 p1 f g v tl).toArray.setIfInBounds (68 + i) y = (rpL sd p0 p1 f g v (tl.set i y)).toArray := by
  have hl := rp_headl sd p0 p1 f g v
  rw [sA]
  congr 1
  rw [rp_head, rp_head, List.set_append_right _ _ (by rw [hl]; omega), hl, Nat.add_sub_cancel_left]
theorem rp_set67 (sd : H32) (p0 p1 : Value) (f : H32) (g v v2 : Int) (tl : List Value) : (rpL sd p0 p1 f g v tl).toArray.setIfInBounds 67 (.int .i64 v2) = (rpL sd p0 p1 f g v2 tl).toArray := by
  rw [sA]
  congr 1
  have e : ∀ x, rpL sd p0 p1 f g x tl = (bs sd.l ++ [p0, p1] ++ bs f.l ++ [Value.int .i64 g]) ++ (Value.int .i64 x :: tl) := fun x => by simp [rpL]
  have hl : (bs sd.l ++ [p0, p1] ++ bs f.l ++ [Value.int .i64 g]).length = 67 := by simp [bs_length]
  rw [e, e, List.set_append_right _ _ (by rw [hl]; exact Nat.le_refl _), hl]
  rfl
theorem rp_67 (sd : H32) (p0 p1 : Value) (f : H32) (g v : Int) (tl : List Value) : nth (rpL sd p0 p1 f g v tl).toArray.toList 67 = some (.int .i64 v) := by
  rw [← nth_get]
  show (rpL sd p0 p1 f g v tl)[67]? = _
  have e : rpL sd p0 p1 f g v tl = (bs sd.l ++ [p0, p1] ++ bs f.l ++ [Value.int .i64 g]) ++ (Value.int .i64 v :: tl) := by simp [rpL]
  have hl : (bs sd.l ++ [p0, p1] ++ bs f.l ++ [Value.int .i64 g]).length = 67 := by simp [bs_length]
  rw [e, List.getElem?_append_right (by rw [hl]; exact Nat.le_refl _), hl]
  rfl
theorem rp_33' (sd : H32) (p0 p1 : Value) (f : H32) (g v : Int) (tl : List Value) : nth (rpL sd p0 p1 f g v tl).toArray.toList 33 = some p1 := by
  rw [← nth_get]
  exact rp_get32 sd p0 p1 f g v tl 1
theorem rp_sz (sd : H32) (p0 p1 : Value) (f : H32) (g v : Int) (tl : List Value) (h : tl.length = 8) : (rpL sd p0 p1 f g v tl).toArray.size = 76 := rpL_len sd p0 p1 f g v tl h
theorem run_seal0 (pub : H32) (zk : Nat) (w : World) : (Instr.build 78 #[(0, .agg (u8s pub.l)), (1, .func (.func 26) #[.pointer (some ⟨zk, 0, none⟩)] #[])]).run Tryz.prog w = .ok (.agg (slL pub (.func (.func 26) #[.pointer (some ⟨zk, 0, none⟩)] #[]) 0).toArray) w := by
  refine run_build_struct Tryz.underlying78 (zv := .agg (slL zeroH .nilFunc 0).toArray) (fun _ => by kernel_rfl) (places := #[(0, 32), (32, 1), (33, 1)]) (fun _ => by kernel_rfl) ?_ w
  show Instr.fill _ (slL zeroH .nilFunc 0).toArray [(0, .agg (u8s pub.l)), (1, .func (.func 26) #[.pointer (some ⟨zk, 0, none⟩)] #[])] = _
  rw [fill_step _ _ 0 _ _ (off := 0) (size := 32) rfl (by show (u8s pub.l).size = 32; exact pub.size) (by rw [slL_len]; decide)]
  rw [show lay 0 (Value.agg (u8s pub.l)).cells (slL zeroH .nilFunc 0).toArray = (slL pub .nilFunc 0).toArray from lay_app 0 (u8s pub.l) [] (bs zeroH.l) _ rfl (by rw [bs_length, zeroH.len]; exact pub.size.symm)]
  rw [fill_step _ _ 1 _ _ (off := 32) (size := 1) rfl rfl (by rw [slL_len]; decide)]
  rw [show lay 32 (Value.func (.func 26) #[.pointer (some ⟨zk, 0, none⟩)] #[]).cells (slL pub .nilFunc 0).toArray = (slL pub (.func (.func 26) #[.pointer (some ⟨zk, 0, none⟩)] #[]) 0).toArray from lay_app 32 _ (bs pub.l) [_] _ (bsl pub) rfl]
  rfl
theorem run_pinV (v : Int) (w : World) : (Instr.build 68 #[(0, .string ⟨#[116, 111, 112]⟩), (1, .int .i64 v)]).run Tryz.prog w = .ok (.agg (RowC.enc (⟨mayL, v⟩ : PinR)).toArray) w := by kernel_rfl
theorem run_pinS (p : PinR) (w : World) : (Instr.buildSlice 57 1 #[(0, .agg (RowC.enc p).toArray)]).run Tryz.prog w = .ok (.slice (some ⟨w.heap.size, 0, none⟩) 1 1) (w.alloc (.cells (cellsOf [p]).toArray 68)) := by kernel_rfl
theorem run_snapV (v e : Int) (A : Option Addr) (n c : Nat) (w : World) : (Instr.build 59 #[(0, .int .i64 v), (1, .int .i64 e), (2, .slice A n c)]).run Tryz.prog w = .ok (.agg #[.int .i64 v, .int .i64 e, .slice A n c]) w := by kernel_rfl
theorem run_timV (v e s : Int) (h : H32) (w : World) : (Instr.build 54 #[(0, .int .i64 v), (1, .int .i64 e), (2, .int .i64 s), (3, .agg (u8s h.l))]).run Tryz.prog w = .ok (.agg (timL v e s h).toArray) w := by
  refine run_build_struct Tryz.underlying54 (zv := .agg (timL 0 0 0 zeroH).toArray) (fun _ => by kernel_rfl) (places := #[(0, 1), (1, 1), (2, 1), (3, 32)]) (fun _ => by kernel_rfl) ?_ w
  have hl : ∀ v e s h, (timL v e s h).toArray.size = 35 := fun v e s h => by show (timL v e s h).length = 35; simp [timL, bs_length]
  show Instr.fill _ (timL 0 0 0 zeroH).toArray [(0, .int .i64 v), (1, .int .i64 e), (2, .int .i64 s), (3, .agg (u8s h.l))] = _
  rw [fill_step _ _ 0 _ _ (off := 0) (size := 1) rfl rfl (by rw [hl]; decide)]
  rw [show lay 0 (Value.int .i64 v).cells (timL 0 0 0 zeroH).toArray = (timL v 0 0 zeroH).toArray from lay_app 0 #[.int .i64 v] [] [.int .i64 0] _ rfl rfl]
  rw [fill_step _ _ 1 _ _ (off := 1) (size := 1) rfl rfl (by rw [hl]; decide)]
  rw [show lay 1 (Value.int .i64 e).cells (timL v 0 0 zeroH).toArray = (timL v e 0 zeroH).toArray from lay_app 1 #[.int .i64 e] [.int .i64 v] [.int .i64 0] _ rfl rfl]
  rw [fill_step _ _ 2 _ _ (off := 2) (size := 1) rfl rfl (by rw [hl]; decide)]
  rw [show lay 2 (Value.int .i64 s).cells (timL v e 0 zeroH).toArray = (timL v e s zeroH).toArray from lay_app 2 #[.int .i64 s] [.int .i64 v, .int .i64 e] [.int .i64 0] _ rfl rfl]
  rw [fill_step _ _ 3 _ _ (off := 3) (size := 32) rfl (by show (u8s h.l).size = 32; exact h.size) (by rw [hl]; decide)]
  have hq := lay_app 3 (u8s h.l) [.int .i64 v, .int .i64 e, .int .i64 s] (bs zeroH.l) [] rfl (by rw [bs_length, zeroH.len]; exact h.size.symm)
  rw [List.append_nil, List.append_nil] at hq
  rw [show lay 3 (Value.agg (u8s h.l)).cells (timL v e s zeroH).toArray = (timL v e s h).toArray from hq]
  rfl
end Go.Proofs.YtgjnjhhhbkidbaaGreat
