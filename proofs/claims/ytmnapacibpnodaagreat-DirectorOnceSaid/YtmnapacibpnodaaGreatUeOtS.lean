/- OtS -/
import Derived.Test.YtmnapacibpnodaaGreatUeHashes
open Go Go.RowKit
namespace Go.Proofs.YtmnapacibpnodaaGreat
def secretRow (seed : H32) (leaf chain : Int) : List UInt8 := 0 :: (seed.l ++ [b8 leaf, b8 chain])
theorem secretRow_len (seed : H32) (leaf chain : Int) : (secretRow seed leaf chain).length = 35 := by simp [secretRow, seed.len]
def secretS (seed : H32) (leaf chain : Int) : H32 := shaH (secretRow seed leaf chain)
set_option maxRecDepth 100000 in
set_option maxHeartbeats 800000 in
theorem secret_calls (seed : H32) (leaf chain : Int) (w : World) :
    Calls Tryz.prog 143 #[.agg (u8s seed.l), .int .i64 leaf, .int .i64 chain] w fun e w' => e = .returned (.agg (u8s (secretS seed leaf chain).l)) ∧ Step nowhere w w' := by
  have kb : ∀ w, (Instr.build 227 #[(0, .int .u8 0)]).run Tryz.prog w = .ok (.agg (u8s (nots 35))) w := fun _ => by kernel_rfl
  have e1 : Hid (((List.take 1 (nots 35) ++ seed.l ++ List.drop (1 + 32) (nots 35)).set 33 (b8 (leaf % 256))).set 34 (b8 (chain % 256)) = secretRow seed leaf chain) := Lib.hid (by
    have e0 : List.take 1 (nots 35) ++ seed.l ++ List.drop (1 + 32) (nots 35) = 0 :: (seed.l ++ [0, 0]) := rfl
    rw [e0, b8_mod, b8_mod, sB, sB, List.set_append_right _ _ (by simp [seed.len]), List.set_append_right _ _ (by simp [seed.len]), seed.len]
    rfl)
  go_enter Tryz.func143, Tryz.ntmps143
  go_wp2_with (first | ((with_reducible apply wpl_build); (exact kb _)) | ((with_reducible apply (wpl_box_agg (dst := some 3))); (exact rfl); intro zs wzs _ _ _) | ((with_reducible apply (wpl_alloc (dst := some 6))); intro zo wzo _ _ _) | ((with_reducible apply (wpl_alloc (dst := some 7))); intro zr wzr _ _ _) | ((with_reducible apply wpl_storerow); (exact rfl); (exact rfl); infer_instance; infer_instance; (first | (with_reducible assumption) | (with_reducible exact H32.size _) | kernel_rfl); (first | (with_reducible assumption) | (with_reducible exact H32.size _) | kernel_rfl); (first | (with_reducible exact u8s_one _) | (with_reducible assumption) | kernel_rfl); intro ws _ _))
  go_still_tail 2, (by kernel_rfl)
  change wpList _ _ _ _ _ (World.drew _)
  go_wp2_with (first | ((with_reducible apply (wpl_storebyte (t := 5))); (exact rfl); (exact rfl); infer_instance; (first | (with_reducible assumption) | omega | (focus (simp; done)) | (focus (simp; omega; done)) | decide); (constructor <;> omega); intro ws _ _) | ((with_reducible apply wpl_copy); (exact Tryz.underlying34); (kernel_rfl); (exact rfl); (exact rfl); infer_instance; infer_instance; (first | (with_reducible assumption) | (with_reducible exact H32.len _) | (focus (simp; done))); (first | (with_reducible assumption) | omega); (first | (with_reducible assumption) | omega | (focus (simp; done)) | (focus (simp; omega; done)) | decide); intro wc _ _))
  have hB := HB.eq (inferInstance : HB ws zr 227 _) e1.out
  refine (sum_calls (xs := secretRow seed leaf chain) (secretRow_len _ _ _) (Nat.le_refl _) (by decide)).mono ?_
  rintro e w5 ⟨rfl, _⟩
  go_wp2_with (first | ((with_reducible apply wpl_storerow); (exact rfl); (exact rfl); infer_instance; infer_instance; (first | (with_reducible assumption) | (with_reducible exact H32.size _) | kernel_rfl); (first | (with_reducible assumption) | (with_reducible exact H32.size _) | kernel_rfl); (first | (with_reducible exact u8s_one _) | (with_reducible assumption) | kernel_rfl); intro ws _ _))
  exact ret_row rfl rfl (n := 32) (H32.size _) rfl ⟨rfl, stepN⟩
set_option maxRecDepth 100000 in
set_option maxHeartbeats 800000 in
theorem rsecret_calls (seed : H32) (leaf chain : Int) (w : World) :
    Calls Tryz.prog 26 #[.agg (u8s seed.l), .int .i64 leaf, .int .i64 chain] w fun e w' => e = .returned (.agg (u8s (secretS seed leaf chain).l)) ∧ Step nowhere w w' := by
  have kb : ∀ w, (Instr.buildSlice 34 1 #[(0, .int .u8 0)]).run Tryz.prog w = .ok (.slice (some ⟨w.heap.size, 0, none⟩) 1 1) (w.alloc (.cells (u8s [0]) 5)) := fun _ => by kernel_rfl
  have kb2 : ∀ w, (Instr.buildSlice 34 2 #[(0, .int .u8 (leaf % 256)), (1, .int .u8 (chain % 256))]).run Tryz.prog w = .ok (.slice (some ⟨w.heap.size, 0, none⟩) 2 2) (w.alloc (.cells (u8s [b8 leaf, b8 chain]) 5)) := fun _ => by rw [mod_b8, mod_b8]; kernel_rfl
  have hm1 : Fact' ([(0 : UInt8)].length ≤ maxLen) := ⟨by decide⟩
  go_enter Tryz.func26, Tryz.ntmps26
  go_wp2_with (first | ((with_reducible apply wpl_bslice); (exact kb _); intro zb wb _ _ _) | ((with_reducible apply wpl_bslice); (exact kb2 _); intro zb2 wb _ _ _) | ((with_reducible apply (wpl_box_agg (dst := some 3))); (exact rfl); intro zs wzs _ _ _) | ((with_reducible apply (wpl_alloc (dst := some 6))); intro zo wzo _ _ _) | ((with_reducible apply wpl_appendB); (exact rfl); (exact rfl); infer_instance; (first | exact inferInstance | exact ⟨Own.nil _ _ _⟩); infer_instance; (first | (with_reducible assumption) | (with_reducible exact H32.len _) | (focus (simp; done)) | omega); (first | (with_reducible assumption) | omega); intro A' c' wa _ _ _ hcap))
  refine (rsum_calls (xs := [(0 : UInt8)] ++ seed.l ++ [b8 leaf, b8 chain]) (by simp [seed.len]) (by decide)).mono ?_
  rintro e w5 ⟨rfl, _⟩
  go_wp2_with (first | ((with_reducible apply wpl_storerow); (exact rfl); (exact rfl); infer_instance; infer_instance; (first | (with_reducible assumption) | (with_reducible exact H32.size _) | kernel_rfl); (first | (with_reducible assumption) | (with_reducible exact H32.size _) | kernel_rfl); (first | (with_reducible exact u8s_one _) | (with_reducible assumption) | kernel_rfl); intro ws _ _))
  exact ret_row rfl rfl (n := 32) (H32.size _) rfl ⟨rfl, stepN⟩
/-- a function of a digest and a place -/
def mapH (g : H32 → Nat → H32) (l : List H32) (k : Nat) : List H32 := (List.range k).map fun i => g (hget l i) i
theorem mapH_len (g : H32 → Nat → H32) (l : List H32) (k : Nat) : (mapH g l k).length = k := by simp [mapH]
theorem mapH_snoc (g : H32 → Nat → H32) (l : List H32) (k : Nat) : mapH g l (k + 1) = mapH g l k ++ [g (hget l k) k] := by simp [mapH, List.range_succ]
/-- so many are walked, the others are noughts -/
def doneH (g : H32 → Nat → H32) (l : List H32) (n k : Nat) : List H32 := mapH g l k ++ List.replicate (n - k) zeroH
theorem doneH_len (g : H32 → Nat → H32) (l : List H32) (n k : Nat) (h : k ≤ n) : (doneH g l n k).length = n := by simp [doneH, mapH_len]; omega
theorem doneH_set (g : H32 → Nat → H32) (l : List H32) (n k : Nat) (h : k < n) : (doneH g l n k).set k (g (hget l k) k) = doneH g l n (k + 1) := by
  unfold doneH
  rw [List.set_append_right _ _ (by rw [mapH_len]; exact Nat.le_refl _), mapH_len, Nat.sub_self, mapH_snoc, List.append_assoc]
  congr 1
  have e : n - k = (n - (k + 1)) + 1 := by omega
  rw [e, List.replicate_succ]
  rfl
theorem doneH_all (g : H32 → Nat → H32) (l : List H32) (n : Nat) : doneH g l n n = mapH g l n := by simp [doneH]
set_option maxRecDepth 100000 in
set_option maxHeartbeats 800000 in
theorem each_calls {A : Option Addr} {n c : Nat} {l : List H32} {w : World} [HR w A (cellsOf l)] (hl : l.length = n) (hn : 36 ≤ n) (f : FuncId) (hf : ∀ args w, (callFunc f args).run Tryz.prog w = .ok (.enter f args) w) (first captured : Array Value) (g : H32 → Nat → H32)
    (hcall : ∀ w', Nw w w' → ∀ (h : H32) (i : Nat), i < 36 → Calls Tryz.prog f (first ++ #[.agg (u8s h.l), .int .i64 (i : Int)] ++ captured) w' fun e w'' => e = .returned (.agg (u8s (g h i).l)) ∧ Step nowhere w' w'') :
    Calls Tryz.prog 112 #[.slice A n c, .func (.func f) first captured] w fun e w' => ∃ z, e = .returned (.slice (some ⟨z, 0, none⟩) 36 36) ∧ Step nowhere w w' ∧ NewA w (some ⟨z, 0, none⟩) ∧ HO w' 26 32 (some ⟨z, 0, none⟩) 36 36 (cellsOf (mapH g l 36)) := by
  have HC := Lib.hid hcall
  have HL := Lib.hid hl
  clear hcall hl
  go_enter Tryz.func112, Tryz.ntmps112
  go_wp2_with (first | ((with_reducible apply (wpl_makehash (n := 36))); (exact rfl); (exact rfl); infer_instance; (decide); intro zm wm _ _ _))
  go_loopw [6, 10] (fun v i wr => ∃ k : Nat, k ≤ 36 ∧ i = .int .i64 (k : Int) ∧ Step nowhere w wr ∧ HO wr 26 32 (some ⟨zm, 0, none⟩) 36 36 (cellsOf (doneH g l 36 k))) (fun _ i _ => 36 - (intOf i).toNat)
  case atStart => exact ⟨0, Nat.zero_le _, rfl, stepN, inferInstance⟩
  case round =>
    obtain ⟨k, hk, rfl, _, _⟩ := hrel
    by_cases hlt : k < 36
    · have hkl : k < l.length := by have := HL.out; omega
      have hkn : k < n := by omega
      have hln := HL.out
      have hd := doneH_len g l 36 k hk
      have hdk : k < (doneH g l 36 k).length := by omega
      have hD : Hid ((doneH g l 36 k).set k (g (hget l k) k) = doneH g l 36 (k + 1)) := Lib.hid (doneH_set g l 36 k hlt)
      go_wp2_with (first | ((with_reducible apply wpl_indexH); (exact rfl); (exact rfl); infer_instance; infer_instance; (first | (with_reducible assumption) | omega); (first | (with_reducible assumption) | omega); (first | (with_reducible assumption) | omega)) | ((with_reducible apply (wpl_loadhash (t := 26))); (exact rfl); infer_instance; infer_instance; (first | (with_reducible assumption) | omega)))
      rw [← Array.append_assoc]
      refine (HC.out _ inferInstance (hget l k) k hlt).mono ?_
      rintro e w5 ⟨rfl, _⟩
      go_wp2_with (first | ((with_reducible apply wpl_indexH); (exact rfl); (exact rfl); infer_instance; infer_instance; (first | (with_reducible assumption) | omega); (first | (with_reducible assumption) | omega); (first | (with_reducible assumption) | omega)) | ((with_reducible apply (wpl_storehash (t := 26))); (exact rfl); (exact rfl); infer_instance; infer_instance; (first | (with_reducible assumption) | omega | (focus (simp; done)) | (focus (simp; omega; done)) | decide); intro ws _ _))
      rw [hD.out] at *
      refine ⟨⟨k + 1, by omega, by go_num, stepN, inferInstance⟩, ?_⟩
      simp [intOf]; omega
    · obtain rfl : k = 36 := by omega
      go_wp2_with fail
      go_ret
      refine ⟨zm, rfl, stepN, NewA.mono (w := _) (NewA.of_born 0), ?_⟩
      rw [← doneH_all]
      exact inferInstance
end Go.Proofs.YtmnapacibpnodaaGreat
