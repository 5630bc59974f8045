/- KyB -/
import Derived.Test.YtcgbgeheiklhhaaGreatTfKyA
open Go Go.RowKit
namespace Go.Proofs.YtcgbgeheiklhhaaGreat
class NewB (w : outParam World) (g : Nat) : Prop where
  out : w.heap.size ≤ g
instance Above.newB (w0 w : World) (g : Nat) [b : NewB w g] [n : Nw w0 w] : Above w0 (only g) := ⟨fun k h => by
  have h' : k = g := h
  rw [h']
  exact Nat.le_trans n.out.size b.out⟩
instance (priority := 900) OffB.newB1 (w : World) (g z : Nat) (t : TypeId) (cs : Array Value) [b : NewB w g] [h : HB w z t cs] : OffB (only g) z := ⟨fun e => by
  have e' : z = g := e
  have := h.out.lt
  have := b.out
  omega⟩
instance (priority := 900) OffB.newB2 (w : World) (g z : Nat) (seed : H32) (used : Int) [b : NewB w g] [h : KeyAt w z seed used] : OffB (only g) z := ⟨fun e => by
  have e' : z = g := e
  have := h.lt
  have := b.out
  omega⟩
instance (priority := 900) OffB.newB3 (w : World) (g z : Nat) (t : TypeId) (cs : Array Value) [b : NewB w g] [h : HB w z t cs] : OffB (only z) g := ⟨fun e => by
  have e' : g = z := e
  have := h.out.lt
  have := b.out
  omega⟩
instance (priority := 900) OffR.newB1 (w : World) (g : Nat) (A : Option Addr) (vs : List Value) [b : NewB w g] [h : HR w A vs] : OffR (only g) A vs := ⟨fun hne ad e hk => by
  have h1 := rd_lt h.out hne e
  have hk' : ad.block = g := hk
  have := b.out
  omega⟩
instance : ZeroT Tryz.prog 63 #[.int .i64 0, .slice none 0 0, .slice none 0 0] := ⟨.agg #[.int .i64 0, .slice none 0 0, .slice none 0 0], fun _ => by kernel_rfl, rfl⟩
instance : RowT Tryz.prog 63 3 := ⟨by kernel_rfl, _, Tryz.underlying63, rfl⟩
instance : CellT Tryz.prog 30 := ⟨fun _ => by kernel_rfl, fun _ => by kernel_rfl⟩
instance : CellT Tryz.prog 4 := ⟨fun _ => by kernel_rfl, fun _ => by kernel_rfl⟩
def tree0 : List H32 := List.replicate 16 zeroH
theorem lay_seed (s0 seed : H32) (u : Int) (g : Bool) (tr : List H32) : lay 0 (u8s seed.l) (keyL s0 u g tr).toArray = (keyL seed u g tr).toArray := by
  apply Array.ext'
  show (keyL s0 u g tr).take 0 ++ bs seed.l ++ (keyL s0 u g tr).drop (0 + (u8s seed.l).size) = keyL seed u g tr
  rw [show (u8s seed.l).size = 32 from seed.size, Nat.zero_add, keyL, List.drop_left' (bsl s0)]
  rfl
theorem lay_used (seed : H32) (u u0 : Int) (g : Bool) (tr : List H32) : lay 32 #[.int .i64 u] (keyL seed u0 g tr).toArray = (keyL seed u g tr).toArray := by
  apply Array.ext'
  show (keyL seed u0 g tr).take 32 ++ [.int .i64 u] ++ (keyL seed u0 g tr).drop (32 + 1) = keyL seed u g tr
  rw [keyL, List.take_left' (bsl seed), ← List.drop_drop, List.drop_left' (bsl seed)]
  simp [keyL]
theorem tree0_len : tree0.length = 16 := by simp [tree0]
theorem run_newKey (seed : H32) (u : Int) (w : World) : (Instr.build 85 #[(0, .agg (u8s seed.l)), (1, .int .i64 u)]).run Tryz.prog w = .ok (.agg (keyL seed u false tree0).toArray) w := by
  refine run_build_struct Tryz.underlying85 (zv := .agg (keyL zeroH 0 false tree0).toArray) (fun _ => by kernel_rfl) (places := #[(0, 32), (32, 1), (33, 1), (34, 512)]) (fun _ => by kernel_rfl) ?_ w
  have h1 : (keyL zeroH 0 false tree0).toArray.size = 546 := by show (keyL zeroH 0 false tree0).length = _; exact keyL_len tree0_len
  have h2 : (keyL seed 0 false tree0).toArray.size = 546 := by show (keyL seed 0 false tree0).length = _; exact keyL_len tree0_len
  show Instr.fill _ (keyL zeroH 0 false tree0).toArray [(0, .agg (u8s seed.l)), (1, .int .i64 u)] = _
  rw [fill_step _ _ 0 _ _ (off := 0) (size := 32) rfl (by show (u8s seed.l).size = 32; exact seed.size) (by rw [h1]; decide)]
  rw [show lay 0 (Value.agg (u8s seed.l)).cells (keyL zeroH 0 false tree0).toArray = (keyL seed 0 false tree0).toArray from lay_seed zeroH seed 0 false tree0]
  rw [fill_step _ _ 1 _ _ (off := 32) (size := 1) rfl rfl (by rw [h2]; decide)]
  rw [show lay 32 (Value.int .i64 u).cells (keyL seed 0 false tree0).toArray = (keyL seed u false tree0).toArray from lay_used seed u 0 false tree0]
  rfl
set_option maxRecDepth 100000 in
theorem new_calls (seed : H32) (used : Int) (w : World) :
    Calls Tryz.prog 13 #[.agg (u8s seed.l), .int .i64 used] w fun e w' => ∃ g, e = .returned (.pointer (some ⟨g, 0, none⟩)) ∧ Step nowhere w w' ∧ NewB w g ∧ KeyAt w' g seed (min (max used 0) 16) := by
  have kb := fun w => run_newKey seed (min (max used 0) 16) w
  go_enter Tryz.func13, Tryz.ntmps13
  go_wp2_with (first | ((with_reducible apply wpl_build); (exact kb _)) | ((with_reducible apply (wpl_box_agg (dst := some 2))); (exact rfl); intro zs wzs _ _ _) | ((with_reducible apply (wpl_box_int (dst := some 2))); (exact rfl); intro zs wzs _ _ _) | ((with_reducible apply (wpl_box_slice (dst := some 2))); (exact rfl); intro zs wzs _ _ _) | ((with_reducible apply (wpl_box_str (dst := some 2))); (exact rfl); intro zs wzs _ _ _) | ((with_reducible apply (wpl_box_bool (dst := some 2))); (exact rfl); intro zs wzs _ _ _) | ((with_reducible apply (wpl_box_ptr (dst := some 2))); (exact rfl); intro zs wzs _ _ _) | ((with_reducible apply (wpl_box_agg (dst := some 10))); (exact rfl); intro zk wzk _ _ _) | ((with_reducible apply (wpl_box_int (dst := some 10))); (exact rfl); intro zk wzk _ _ _) | ((with_reducible apply (wpl_box_slice (dst := some 10))); (exact rfl); intro zk wzk _ _ _) | ((with_reducible apply (wpl_box_str (dst := some 10))); (exact rfl); intro zk wzk _ _ _) | ((with_reducible apply (wpl_box_bool (dst := some 10))); (exact rfl); intro zk wzk _ _ _) | ((with_reducible apply (wpl_box_ptr (dst := some 10))); (exact rfl); intro zk wzk _ _ _) | ((with_reducible apply wpl_box_agg); (exact rfl); intro z wz _ _ _) | ((with_reducible apply wpl_box_int); (exact rfl); intro z wz _ _ _) | ((with_reducible apply wpl_box_slice); (exact rfl); intro z wz _ _ _) | ((with_reducible apply wpl_box_str); (exact rfl); intro z wz _ _ _) | ((with_reducible apply wpl_box_bool); (exact rfl); intro z wz _ _ _) | ((with_reducible apply wpl_box_ptr); (exact rfl); intro z wz _ _ _) | ((with_reducible apply wpl_loadrow); (exact rfl); infer_instance; infer_instance; (first | (with_reducible assumption) | (with_reducible exact H32.size _) | kernel_rfl)) | ((with_reducible apply wpl_loadcellN); (exact rfl); infer_instance; (exact rfl)) | ((with_reducible apply wpl_max); (exact rfl); (exact rfl)) | ((with_reducible apply wpl_min); (exact rfl); (exact rfl)) | ((with_reducible apply (wpl_loadhash (t := 23))); (exact rfl); infer_instance; infer_instance; (first | (with_reducible assumption) | omega)) | ((with_reducible apply (wpl_loadint (t := 3))); (exact rfl); infer_instance; infer_instance; (first | (with_reducible assumption) | omega)) | ((with_reducible apply (wpl_loadbyte (t := 5))); (exact rfl); infer_instance; infer_instance; (first | (with_reducible assumption) | omega)))
  have hk : HB wzk zk 85 (keyL seed (min (max used 0) 16) false tree0).toArray := inferInstance
  have hn : NewB w zk := ⟨by
    have h1 := (inferInstance : Born wzs zk).eq
    have h2 := (stepN (w0 := w) (w := wzs)).chg.size
    omega⟩
  have hka : KeyAt wzk zk seed (min (max used 0) 16) := ⟨false, tree0, tree0_len, (fun h => by cases h), hk⟩
  go_ret
  exact ⟨zk, rfl, stepN, hn, hka⟩
set_option maxRecDepth 100000 in
theorem signUsed_calls {zk : Nat} {seed : H32} {used : Int} (A : Option Addr) (n c : Nat) (w : World) [hk : KeyAt w zk seed used] (hu : 16 ≤ used) :
    Calls Tryz.prog 19 #[.pointer (some ⟨zk, 0, none⟩), .slice A n c] w fun e w' => e = .returned (.tuple #[.agg #[.int .i64 0, .slice none 0 0, .slice none 0 0], .int .i64 3]) ∧ Step nowhere w w' := by
  have kb0 : ∀ w, (Instr.build 63 #[]).run Tryz.prog w = .ok (.agg #[.int .i64 0, .slice none 0 0, .slice none 0 0]) w := fun _ => by kernel_rfl
  go_enter Tryz.func19, Tryz.ntmps19
  go_wp2_with (first | ((with_reducible apply wpl_build); (exact kb0 _)) | ((with_reducible apply (wpl_kUsed (t := 3))); (exact rfl); infer_instance; infer_instance) | ((with_reducible apply (wpl_alloc (dst := some 4))); intro zo wzo _ _ _) | ((with_reducible apply wpl_alloc); intro z wz _ _ _) | ((with_reducible apply wpl_loadrow); (exact rfl); infer_instance; infer_instance; (first | (with_reducible assumption) | (with_reducible exact H32.size _) | kernel_rfl)) | ((with_reducible apply wpl_loadcellN); (exact rfl); infer_instance; (exact rfl)) | ((with_reducible apply wpl_storerow); (exact rfl); (exact rfl); infer_instance; infer_instance; (first | (with_reducible assumption) | (with_reducible exact H32.size _) | kernel_rfl); (first | (with_reducible assumption) | (with_reducible exact H32.size _) | kernel_rfl); (first | (with_reducible exact u8s_one _) | (with_reducible assumption) | kernel_rfl); intro ws _ _) | ((with_reducible apply wpl_storecell); (exact rfl); (exact rfl); infer_instance; (exact rfl); (first | (with_reducible assumption) | omega | (focus (simp; done)) | (focus (simp; omega; done)) | decide); intro ws _ _) | ((with_reducible apply (wpl_loadhash (t := 23))); (exact rfl); infer_instance; infer_instance; (first | (with_reducible assumption) | omega)) | ((with_reducible apply (wpl_storehash (t := 23))); (exact rfl); (exact rfl); infer_instance; infer_instance; (first | (with_reducible assumption) | omega | (focus (simp; done)) | (focus (simp; omega; done)) | decide); intro ws _ _) | ((with_reducible apply (wpl_loadint (t := 3))); (exact rfl); infer_instance; infer_instance; (first | (with_reducible assumption) | omega)) | ((with_reducible apply (wpl_loadbyte (t := 5))); (exact rfl); infer_instance; infer_instance; (first | (with_reducible assumption) | omega)) | ((with_reducible apply (wpl_storeint (t := 3))); (exact rfl); (exact rfl); infer_instance; (first | (with_reducible assumption) | omega); intro ws _ _) | ((with_reducible apply (wpl_storebyte (t := 5))); (exact rfl); (exact rfl); infer_instance; (first | (with_reducible assumption) | omega | (focus (simp; done)) | (focus (simp; omega; done)) | decide); (constructor <;> omega); intro ws _ _))
  exact ret_row_ rfl rfl rfl (n := 3) rfl rfl ⟨rfl, stepN⟩
def oneH : H32 := ⟨1 :: List.replicate 31 0, rfl⟩
end Go.Proofs.YtcgbgeheiklhhaaGreat
