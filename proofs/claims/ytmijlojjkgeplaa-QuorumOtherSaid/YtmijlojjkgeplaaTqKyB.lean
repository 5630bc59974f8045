/- MkH, MkA, MkB, MkC, MkU, KyA, KyB -/
import Derived.Test.YtmijlojjkgeplaaTqBase
import Derived.Test.YtmijlojjkgeplaaShelf
import Derived.Test.YtmijlojjkgeplaaTqMapH
import Derived.Test.YtmijlojjkgeplaaTqOtP
section
open Go Go.RowKit
namespace Go.Proofs.Ytmijlojjkgeplaa
def halfN (n : Nat) : Nat := 2 ^ Nat.log2 (n - 1)
theorem halfN_in (n : Nat) (h : 2 ≤ n) : 1 ≤ halfN n ∧ halfN n < n ∧ n ≤ 2 * halfN n := by
  have h1 : n - 1 ≠ 0 := by omega
  have h2 := Nat.log2_self_le h1
  have h3 := @Nat.lt_log2_self (n - 1)
  have h4 : 2 ^ (Nat.log2 (n - 1) + 1) = 2 * 2 ^ Nat.log2 (n - 1) := by rw [Nat.pow_succ, Nat.mul_comm]
  have h5 : 1 ≤ 2 ^ Nat.log2 (n - 1) := Nat.one_le_two_pow
  unfold halfN
  omega
theorem halfN_of (n j : Nat) (h1 : 2 ^ j < n) (h2 : n ≤ 2 * 2 ^ j) : 2 ^ j = halfN n := by
  unfold halfN
  congr 1
  have h3 : n - 1 ≠ 0 := by have : 1 ≤ 2 ^ j := Nat.one_le_two_pow; omega
  exact ((Nat.log2_eq_iff h3).2 ⟨by omega, by rw [Nat.pow_succ]; omega⟩).symm
set_option maxRecDepth 100000 in
set_option maxHeartbeats 800000 in
theorem half_calls (n : Nat) (w : World) (h : 2 ≤ n) (hn : n ≤ 1000) :
    Calls Try.prog 95 #[.int .i64 (n : Int)] w fun e w' => e = .returned (.int .i64 ((halfN n : Nat) : Int)) ∧ Step nowhere w w' := by
  go_enter Try.func95, Try.ntmps95
  go_wp2_with (first | fail)
  go_loopw [3] (fun i wr => ∃ (k : Nat), (∃ j, k = 2 ^ j) ∧ 1 ≤ k ∧ k < n ∧ i = .int .i64 (k : Int) ∧ Step nowhere w wr) (fun i _ => n - (intOf i).toNat)
  case atStart => exact ⟨1, ⟨0, rfl⟩, by omega, by omega, rfl, stepN⟩
  case round =>
    obtain ⟨k, hj, h1, h2, rfl, _⟩ := hrel
    have HJ := Lib.hid hj
    clear hj
    by_cases hlt : 2 * (k : Int) < n
    · go_wp2_with (first | fail)
      refine ⟨⟨2 * k, ?_, by omega, by omega, by go_num, stepN⟩, by simp [intOf]; omega⟩
      obtain ⟨j, hj⟩ := HJ.out
      exact ⟨j + 1, by rw [hj, Nat.pow_succ, Nat.mul_comm]⟩
    · have hk : k = halfN n := by
        obtain ⟨j, hj⟩ := HJ.out
        rw [hj]
        exact halfN_of n j (by omega) (by omega)
      have HK := Lib.hid hk
      clear hk
      go_wp2_with (first | fail)
      go_ret
      rw [← HK.out]
      exact ⟨rfl, stepN⟩
end Go.Proofs.Ytmijlojjkgeplaa
end
section
open Go Go.RowKit
namespace Go.Proofs.Ytmijlojjkgeplaa
def nodeH (a b : H32) : H32 := ⟨nodeOf a.l b.l, nodeOf_len a.l b.l⟩
def rootF : Nat → List H32 → H32
  | 0, _ => zeroH
  | _ + 1, [] => zeroH
  | _ + 1, [a] => a
  | f + 1, a :: b :: l => nodeH (rootF f ((a :: b :: l).take (halfN (l.length + 2)))) (rootF f ((a :: b :: l).drop (halfN (l.length + 2))))
theorem rootF_two (f : Nat) (l : List H32) (h : 2 ≤ l.length) : rootF (f + 1) l = nodeH (rootF f (l.take (halfN l.length))) (rootF f (l.drop (halfN l.length))) := by
  rcases l with _ | ⟨a, _ | ⟨b, l⟩⟩
  · simp at h
  · simp at h
  · rfl
theorem rootF_fuel : ∀ (f g : Nat) (l : List H32), l.length ≤ f → l.length ≤ g → rootF f l = rootF g l
  | 0, g, l, h, _ => by
    obtain rfl : l = [] := List.eq_nil_of_length_eq_zero (by omega)
    cases g <;> rfl
  | f + 1, 0, l, _, h => by
    obtain rfl : l = [] := List.eq_nil_of_length_eq_zero (by omega)
    rfl
  | f + 1, g + 1, l, h1, h2 => by
    rcases l with _ | ⟨a, _ | ⟨b, l⟩⟩
    · rfl
    · rfl
    · have hl : 2 ≤ (a :: b :: l).length := by simp
      have hh := halfN_in _ hl
      rw [rootF_two f _ hl, rootF_two g _ hl]
      generalize (a :: b :: l) = l at *
      rw [rootF_fuel f g (l.take (halfN l.length)) (by rw [List.length_take]; omega) (by rw [List.length_take]; omega),
        rootF_fuel f g (l.drop (halfN l.length)) (by rw [List.length_drop]; omega) (by rw [List.length_drop]; omega)]
def rootL (l : List H32) : H32 := rootF l.length l
theorem rootL_two (l : List H32) (h : 2 ≤ l.length) : rootL l = nodeH (rootL (l.take (halfN l.length))) (rootL (l.drop (halfN l.length))) := by
  have hh := halfN_in _ h
  unfold rootL
  obtain ⟨f, hf⟩ : ∃ f, l.length = f + 1 := ⟨l.length - 1, by omega⟩
  conv => lhs; rw [hf, rootF_two f l h]
  rw [rootF_fuel f (l.take (halfN l.length)).length _ (by rw [List.length_take]; omega) (Nat.le_refl _), rootF_fuel f (l.drop (halfN l.length)).length _ (by rw [List.length_drop]; omega) (Nat.le_refl _)]
/-- the way up -/
def pathF : Nat → List H32 → Nat → List H32
  | 0, _, _ => []
  | f + 1, l, i => if l.length < 2 then [] else
      if i < halfN l.length then pathF f (l.take (halfN l.length)) i ++ [rootL (l.drop (halfN l.length))]
      else pathF f (l.drop (halfN l.length)) (i - halfN l.length) ++ [rootL (l.take (halfN l.length))]
theorem pathF_small (f : Nat) (l : List H32) (i : Nat) (h : l.length < 2) : pathF f l i = [] := by
  cases f with
  | zero => rfl
  | succ f => rw [pathF, if_pos h]
theorem pathF_fuel : ∀ (f g : Nat) (l : List H32) (i : Nat), l.length ≤ f → l.length ≤ g → pathF f l i = pathF g l i
  | 0, 0, l, i, _, _ => rfl
  | 0, g + 1, l, i, h, _ => by rw [pathF_small _ _ _ (by omega), pathF_small _ _ _ (by omega)]
  | f + 1, 0, l, i, _, h => by rw [pathF_small _ _ _ (by omega), pathF_small _ _ _ (by omega)]
  | f + 1, g + 1, l, i, h1, h2 => by
    rw [pathF, pathF]
    by_cases hl : l.length < 2
    · rw [if_pos hl, if_pos hl]
    · have hh := halfN_in l.length (by omega)
      rw [if_neg hl, if_neg hl, pathF_fuel f g (l.take (halfN l.length)) i (by rw [List.length_take]; omega) (by rw [List.length_take]; omega),
        pathF_fuel f g (l.drop (halfN l.length)) (i - halfN l.length) (by rw [List.length_drop]; omega) (by rw [List.length_drop]; omega)]
def pathL (l : List H32) (i : Nat) : List H32 := pathF l.length l i
theorem pathL_small (l : List H32) (i : Nat) (h : l.length < 2) : pathL l i = [] := by
  unfold pathL
  rcases hl : l.length with _ | n
  · rfl
  · rw [pathF, if_pos h]
theorem pathL_lo (l : List H32) (i : Nat) (h : 2 ≤ l.length) (hi : i < halfN l.length) : pathL l i = pathL (l.take (halfN l.length)) i ++ [rootL (l.drop (halfN l.length))] := by
  have hh := halfN_in _ h
  unfold pathL
  obtain ⟨f, hf⟩ : ∃ f, l.length = f + 1 := ⟨l.length - 1, by omega⟩
  conv => lhs; rw [hf, pathF, if_neg (by omega), if_pos hi]
  rw [pathF_fuel f (l.take (halfN l.length)).length _ _ (by rw [List.length_take]; omega) (Nat.le_refl _)]
theorem pathL_hi (l : List H32) (i : Nat) (h : 2 ≤ l.length) (hi : ¬ i < halfN l.length) : pathL l i = pathL (l.drop (halfN l.length)) (i - halfN l.length) ++ [rootL (l.take (halfN l.length))] := by
  have hh := halfN_in _ h
  unfold pathL
  obtain ⟨f, hf⟩ : ∃ f, l.length = f + 1 := ⟨l.length - 1, by omega⟩
  conv => lhs; rw [hf, pathF, if_neg (by omega), if_neg hi]
  rw [pathF_fuel f (l.drop (halfN l.length)).length _ _ (by rw [List.length_drop]; omega) (Nat.le_refl _)]
theorem pathF_len : ∀ (f : Nat) (l : List H32) (i : Nat), (pathF f l i).length ≤ f
  | 0, l, i => by simp [pathF]
  | f + 1, l, i => by
    rw [pathF]
    split
    · simp
    · split
      · rw [List.length_append, List.length_singleton]; have := pathF_len f (l.take (halfN l.length)) i; omega
      · rw [List.length_append, List.length_singleton]; have := pathF_len f (l.drop (halfN l.length)) (i - halfN l.length); omega
theorem pathL_len (l : List H32) (i : Nat) : (pathL l i).length ≤ l.length := pathF_len _ _ _
/-- up the way -/
def upL : H32 → Nat → List H32 → H32
  | h, _, [] => h
  | h, i, o :: l => upL (if i % 2 = 0 then nodeH h o else nodeH o h) (i / 2) l
theorem nodeC (a b : H32) (w : World) : Calls Try.prog 109 #[.agg (u8s a.l), .agg (u8s b.l)] w fun e w' => e = .returned (.agg (u8s (nodeH a b).l)) ∧ Step nowhere w w' :=
  (node_calls a.l b.l w a.len b.len).mono fun _ _ ⟨h1, h2⟩ => ⟨h1, ⟨h2.out⟩⟩
theorem rnodeC (a b : H32) (w : World) : Calls Try.prog 96 #[.agg (u8s a.l), .agg (u8s b.l)] w fun e w' => e = .returned (.agg (u8s (nodeH a b).l)) ∧ Step nowhere w w' :=
  (refNode_calls a.l b.l w a.len b.len).mono fun _ _ ⟨h1, h2⟩ => ⟨h1, ⟨h2.out⟩⟩
end Go.Proofs.Ytmijlojjkgeplaa
end
section
open Go Go.RowKit
namespace Go.Proofs.Ytmijlojjkgeplaa
def sub (l : List H32) (f t : Nat) : List H32 := (l.take t).drop f
theorem sub_len (l : List H32) (f t : Nat) (h : t ≤ l.length) : (sub l f t).length = t - f := by simp [sub]; omega
theorem sub_get (l : List H32) (f t j : Nat) : (sub l f t)[j]? = if f + j < t then l[f + j]? else none := by
  simp only [sub, List.getElem?_drop, List.getElem?_take]
theorem sub_take (l : List H32) (f m t : Nat) (h1 : f ≤ m) (h2 : m ≤ t) : (sub l f t).take (m - f) = sub l f m := by
  apply List.ext_getElem?
  intro j
  rw [List.getElem?_take, sub_get, sub_get]
  by_cases hj : f + j < m
  · rw [if_pos (by omega), if_pos (by omega), if_pos hj]
  · rw [if_neg (by omega), if_neg hj]
theorem sub_drop (l : List H32) (f m t : Nat) (h1 : f ≤ m) : (sub l f t).drop (m - f) = sub l m t := by
  apply List.ext_getElem?
  intro j
  rw [List.getElem?_drop, sub_get, sub_get, show f + (m - f + j) = m + j by omega]
theorem sub_one (l : List H32) (f : Nat) (h : f < l.length) : sub l f (f + 1) = [hget l f] := by
  apply List.ext_getElem?
  intro j
  rw [sub_get]
  rcases j with _ | j
  · rw [if_pos (by omega)]
    simp [hget, List.getD_eq_getElem?_getD, h]
  · rw [if_neg (by omega)]
    simp
theorem sub_all (l : List H32) : sub l 0 l.length = l := by simp [sub]
theorem root_split (l : List H32) (f t : Nat) (h : f + 2 ≤ t) (ht : t ≤ l.length) : rootL (sub l f t) = nodeH (rootL (sub l f (f + halfN (t - f)))) (rootL (sub l (f + halfN (t - f)) t)) := by
  have hh := halfN_in (t - f) (by omega)
  have hl := sub_len l f t ht
  rw [rootL_two _ (by omega), hl]
  have e1 := sub_take l f (f + halfN (t - f)) t (by omega) (by omega)
  have e2 := sub_drop l f (f + halfN (t - f)) t (by omega)
  rw [show f + halfN (t - f) - f = halfN (t - f) by omega] at e1 e2
  rw [e1, e2]
end Go.Proofs.Ytmijlojjkgeplaa
end
section
open Go Go.RowKit
namespace Go.Proofs.Ytmijlojjkgeplaa
/-- the way up of any place -/
def pathA (l : List H32) (i : Int) : List H32 := if i < 0 ∨ (l.length : Int) ≤ i then [] else pathL l i.toNat
theorem pathA_len (l : List H32) (i : Int) : (pathA l i).length ≤ l.length := by
  unfold pathA
  split
  · simp
  · exact pathL_len _ _
end Go.Proofs.Ytmijlojjkgeplaa
end
section
open Go Go.RowKit
namespace Go.Proofs.Ytmijlojjkgeplaa
theorem upL_drop (h : H32) (i : Nat) (l : List H32) (k : Nat) (hk : k < l.length) : upL h i (l.drop k) = upL (if i % 2 = 0 then nodeH h (hget l k) else nodeH (hget l k) h) (i / 2) (l.drop (k + 1)) := by
  rw [List.drop_eq_getElem_cons hk, upL]
  congr 1
  simp [hget, List.getD_eq_getElem?_getD, hk]
theorem i64_and1 (a : Int) : bits .and .i64 a 1 = a % 2 := by
  show IntKind.i64.wrap ((BitVec.ofInt 64 a &&& BitVec.ofInt 64 1).toNat : Int) = _
  have h1 : (BitVec.ofInt 64 1).toNat = 2 ^ 1 - 1 := by decide
  rw [BitVec.toNat_and, h1, Nat.and_two_pow_sub_one_eq_mod, BitVec.toNat_ofInt, IntKind.wrap_i64]
  omega
set_option maxRecDepth 100000 in
set_option maxHeartbeats 1600000 in
theorem upC {A : Option Addr} {n c : Nat} {l : List H32} (leaf : H32) (i : Nat) {w : World} [hr : HR w A (cellsOf l)] (hl : l.length = n) (hn : n ≤ 1000) (hi : i ≤ 9223372036854775807) :
    Calls Try.prog 66 #[.agg (u8s leaf.l), .int .i64 (i : Int), .slice A n c] w fun e w' => e = .returned (.agg (u8s (upL leaf i l).l)) ∧ Step nowhere w w' := by
  obtain ⟨R, hR⟩ : ∃ R, R = upL leaf i l := ⟨_, rfl⟩
  have HL := Lib.hid hl
  have HR0 : Hid (upL leaf i (l.drop 0) = R) := Lib.hid (by rw [hR]; rfl)
  rw [← hR]
  clear hR
  go_enter Try.func66, Try.ntmps66
  go_wp2_with (first | ((with_reducible apply (wpl_alloc (dst := some 3))); intro zl wzl _ _ _) | ((with_reducible apply (wpl_box_agg (dst := some 3))); (exact rfl); intro zl wzl _ _ _) | ((with_reducible apply (wpl_box_int (dst := some 3))); (exact rfl); intro zl wzl _ _ _) | ((with_reducible apply (wpl_box_slice (dst := some 3))); (exact rfl); intro zl wzl _ _ _) | ((with_reducible apply (wpl_box_str (dst := some 3))); (exact rfl); intro zl wzl _ _ _) | ((with_reducible apply (wpl_box_bool (dst := some 3))); (exact rfl); intro zl wzl _ _ _) | ((with_reducible apply (wpl_box_ptr (dst := some 3))); (exact rfl); intro zl wzl _ _ _) | ((with_reducible apply (wpl_alloc (dst := some 6))); intro zo wzo _ _ _) | ((with_reducible apply (wpl_box_agg (dst := some 6))); (exact rfl); intro zo wzo _ _ _) | ((with_reducible apply (wpl_box_int (dst := some 6))); (exact rfl); intro zo wzo _ _ _) | ((with_reducible apply (wpl_box_slice (dst := some 6))); (exact rfl); intro zo wzo _ _ _) | ((with_reducible apply (wpl_box_str (dst := some 6))); (exact rfl); intro zo wzo _ _ _) | ((with_reducible apply (wpl_box_bool (dst := some 6))); (exact rfl); intro zo wzo _ _ _) | ((with_reducible apply (wpl_box_ptr (dst := some 6))); (exact rfl); intro zo wzo _ _ _) | ((with_reducible apply wpl_alloc); intro z wz _ _ _) | ((with_reducible apply wpl_box_agg); (exact rfl); intro z wz _ _ _) | ((with_reducible apply wpl_box_int); (exact rfl); intro z wz _ _ _) | ((with_reducible apply wpl_box_slice); (exact rfl); intro z wz _ _ _) | ((with_reducible apply wpl_box_str); (exact rfl); intro z wz _ _ _) | ((with_reducible apply wpl_box_bool); (exact rfl); intro z wz _ _ _) | ((with_reducible apply wpl_box_ptr); (exact rfl); intro z wz _ _ _) | ((with_reducible apply wpl_loadrow); (exact rfl); infer_instance; infer_instance; (first | (with_reducible assumption) | (with_reducible exact H32.size _) | kernel_rfl)) | ((with_reducible apply (wpl_loadint (t := 3))); (exact rfl); infer_instance; infer_instance; (first | (with_reducible assumption) | omega)) | ((with_reducible apply (wpl_loadbyte (t := 5))); (exact rfl); infer_instance; infer_instance; (first | (with_reducible assumption) | omega)) | ((with_reducible apply wpl_loadcell); (exact rfl); infer_instance; (exact rfl)) | ((with_reducible apply wpl_storerow); (exact rfl); (exact rfl); infer_instance; infer_instance; (first | (with_reducible assumption) | (with_reducible exact H32.size _) | kernel_rfl); (first | (with_reducible assumption) | (with_reducible exact H32.size _) | kernel_rfl); (first | (with_reducible exact u8s_one _) | (with_reducible assumption) | kernel_rfl); intro ws _ _) | ((with_reducible apply (wpl_storeint (t := 3))); (exact rfl); (exact rfl); infer_instance; (first | (with_reducible assumption) | omega); intro ws _ _) | ((with_reducible apply (wpl_storebyte (t := 5))); (exact rfl); (exact rfl); infer_instance; (first | (with_reducible assumption) | omega | (focus (simp; done)) | (focus (simp; omega; done)) | decide); (constructor <;> omega); intro ws _ _) | ((with_reducible apply wpl_storecell); (exact rfl); (exact rfl); infer_instance; (exact rfl); (first | (with_reducible assumption) | omega | (focus (simp; done)) | (focus (simp; omega; done)) | decide); intro ws _ _) | ((with_reducible apply wpl_indexH); (exact rfl); (exact rfl); infer_instance; infer_instance; (first | (with_reducible assumption) | omega); (first | (with_reducible assumption) | omega); (first | (with_reducible assumption) | omega)) | ((with_reducible apply wpl_indexH'); (exact rfl); (exact rfl); infer_instance; infer_instance; (first | (with_reducible assumption) | omega); (first | (with_reducible assumption) | omega); (first | (with_reducible assumption) | omega)) | ((with_reducible apply (wpl_loadhash (t := 23))); (exact rfl); infer_instance; infer_instance; (first | (with_reducible assumption) | omega)) | ((with_reducible apply (wpl_storehash (t := 23))); (exact rfl); (exact rfl); infer_instance; infer_instance; (first | (with_reducible assumption) | omega | (focus (simp; done)) | (focus (simp; omega; done)) | decide); intro ws _ _))
  go_loopw [1, 11] (fun iv kv wr => ∃ (k j : Nat) (h : H32), k ≤ n ∧ kv = .int .i64 (k : Int) ∧ iv = .int .i64 (j : Int) ∧ j ≤ 9223372036854775807 ∧ Hid (upL h j (l.drop k) = R) ∧ Step nowhere w wr ∧ HB wr zo 23 (u8s zeroH.l) ∧ HB wr zl 23 (u8s h.l)) (fun _ kv _ => n - (intOf kv).toNat)
  case atStart => exact ⟨0, i, leaf, Nat.zero_le _, rfl, rfl, hi, HR0, stepN, inferInstance, inferInstance⟩
  case round =>
    obtain ⟨k, j, h, hk, rfl, rfl, hj, HU, _, _, _⟩ := hrel
    by_cases hlt : k < n
    · have hkl : k < l.length := by have := HL.out; omega
      have hltI : (k : Int) < n := by omega
      have hup := upL_drop h j l k hkl
      by_cases hp : j % 2 = 0
      · have hb : (bits BinOp.and IntKind.i64 (j : Int) 1 == 0) = true := by rw [i64_and1]; simp; omega
        rw [if_pos hp] at hup
        have HUP := Lib.hid hup
        clear hup hp
        go_wp2_with (first | ((with_reducible apply (wpl_alloc (dst := some 8))); intro zt wzt _ _ _) | ((with_reducible apply (wpl_box_agg (dst := some 8))); (exact rfl); intro zt wzt _ _ _) | ((with_reducible apply (wpl_box_int (dst := some 8))); (exact rfl); intro zt wzt _ _ _) | ((with_reducible apply (wpl_box_slice (dst := some 8))); (exact rfl); intro zt wzt _ _ _) | ((with_reducible apply (wpl_box_str (dst := some 8))); (exact rfl); intro zt wzt _ _ _) | ((with_reducible apply (wpl_box_bool (dst := some 8))); (exact rfl); intro zt wzt _ _ _) | ((with_reducible apply (wpl_box_ptr (dst := some 8))); (exact rfl); intro zt wzt _ _ _) | ((with_reducible apply wpl_alloc); intro z wz _ _ _) | ((with_reducible apply wpl_box_agg); (exact rfl); intro z wz _ _ _) | ((with_reducible apply wpl_box_int); (exact rfl); intro z wz _ _ _) | ((with_reducible apply wpl_box_slice); (exact rfl); intro z wz _ _ _) | ((with_reducible apply wpl_box_str); (exact rfl); intro z wz _ _ _) | ((with_reducible apply wpl_box_bool); (exact rfl); intro z wz _ _ _) | ((with_reducible apply wpl_box_ptr); (exact rfl); intro z wz _ _ _) | ((with_reducible apply wpl_loadrow); (exact rfl); infer_instance; infer_instance; (first | (with_reducible assumption) | (with_reducible exact H32.size _) | kernel_rfl)) | ((with_reducible apply (wpl_loadint (t := 3))); (exact rfl); infer_instance; infer_instance; (first | (with_reducible assumption) | omega)) | ((with_reducible apply (wpl_loadbyte (t := 5))); (exact rfl); infer_instance; infer_instance; (first | (with_reducible assumption) | omega)) | ((with_reducible apply wpl_loadcell); (exact rfl); infer_instance; (exact rfl)) | ((with_reducible apply wpl_storerow); (exact rfl); (exact rfl); infer_instance; infer_instance; (first | (with_reducible assumption) | (with_reducible exact H32.size _) | kernel_rfl); (first | (with_reducible assumption) | (with_reducible exact H32.size _) | kernel_rfl); (first | (with_reducible exact u8s_one _) | (with_reducible assumption) | kernel_rfl); intro ws _ _) | ((with_reducible apply (wpl_storeint (t := 3))); (exact rfl); (exact rfl); infer_instance; (first | (with_reducible assumption) | omega); intro ws _ _) | ((with_reducible apply (wpl_storebyte (t := 5))); (exact rfl); (exact rfl); infer_instance; (first | (with_reducible assumption) | omega | (focus (simp; done)) | (focus (simp; omega; done)) | decide); (constructor <;> omega); intro ws _ _) | ((with_reducible apply wpl_storecell); (exact rfl); (exact rfl); infer_instance; (exact rfl); (first | (with_reducible assumption) | omega | (focus (simp; done)) | (focus (simp; omega; done)) | decide); intro ws _ _) | ((with_reducible apply wpl_indexH); (exact rfl); (exact rfl); infer_instance; infer_instance; (first | (with_reducible assumption) | omega); (first | (with_reducible assumption) | omega); (first | (with_reducible assumption) | omega)) | ((with_reducible apply wpl_indexH'); (exact rfl); (exact rfl); infer_instance; infer_instance; (first | (with_reducible assumption) | omega); (first | (with_reducible assumption) | omega); (first | (with_reducible assumption) | omega)) | ((with_reducible apply (wpl_loadhash (t := 23))); (exact rfl); infer_instance; infer_instance; (first | (with_reducible assumption) | omega)) | ((with_reducible apply (wpl_storehash (t := 23))); (exact rfl); (exact rfl); infer_instance; infer_instance; (first | (with_reducible assumption) | omega | (focus (simp; done)) | (focus (simp; omega; done)) | decide); intro ws _ _))
        refine (nodeC h (hget l k) _).mono ?_
        rintro e w4 ⟨rfl, _⟩
        go_wp2_with (first | ((with_reducible apply wpl_alloc); intro z wz _ _ _) | ((with_reducible apply wpl_box_agg); (exact rfl); intro z wz _ _ _) | ((with_reducible apply wpl_box_int); (exact rfl); intro z wz _ _ _) | ((with_reducible apply wpl_box_slice); (exact rfl); intro z wz _ _ _) | ((with_reducible apply wpl_box_str); (exact rfl); intro z wz _ _ _) | ((with_reducible apply wpl_box_bool); (exact rfl); intro z wz _ _ _) | ((with_reducible apply wpl_box_ptr); (exact rfl); intro z wz _ _ _) | ((with_reducible apply wpl_loadrow); (exact rfl); infer_instance; infer_instance; (first | (with_reducible assumption) | (with_reducible exact H32.size _) | kernel_rfl)) | ((with_reducible apply (wpl_loadint (t := 3))); (exact rfl); infer_instance; infer_instance; (first | (with_reducible assumption) | omega)) | ((with_reducible apply (wpl_loadbyte (t := 5))); (exact rfl); infer_instance; infer_instance; (first | (with_reducible assumption) | omega)) | ((with_reducible apply wpl_loadcell); (exact rfl); infer_instance; (exact rfl)) | ((with_reducible apply wpl_storerow); (exact rfl); (exact rfl); infer_instance; infer_instance; (first | (with_reducible assumption) | (with_reducible exact H32.size _) | kernel_rfl); (first | (with_reducible assumption) | (with_reducible exact H32.size _) | kernel_rfl); (first | (with_reducible exact u8s_one _) | (with_reducible assumption) | kernel_rfl); intro ws _ _) | ((with_reducible apply (wpl_storeint (t := 3))); (exact rfl); (exact rfl); infer_instance; (first | (with_reducible assumption) | omega); intro ws _ _) | ((with_reducible apply (wpl_storebyte (t := 5))); (exact rfl); (exact rfl); infer_instance; (first | (with_reducible assumption) | omega | (focus (simp; done)) | (focus (simp; omega; done)) | decide); (constructor <;> omega); intro ws _ _) | ((with_reducible apply wpl_storecell); (exact rfl); (exact rfl); infer_instance; (exact rfl); (first | (with_reducible assumption) | omega | (focus (simp; done)) | (focus (simp; omega; done)) | decide); intro ws _ _) | ((with_reducible apply wpl_indexH); (exact rfl); (exact rfl); infer_instance; infer_instance; (first | (with_reducible assumption) | omega); (first | (with_reducible assumption) | omega); (first | (with_reducible assumption) | omega)) | ((with_reducible apply wpl_indexH'); (exact rfl); (exact rfl); infer_instance; infer_instance; (first | (with_reducible assumption) | omega); (first | (with_reducible assumption) | omega); (first | (with_reducible assumption) | omega)) | ((with_reducible apply (wpl_loadhash (t := 23))); (exact rfl); infer_instance; infer_instance; (first | (with_reducible assumption) | omega)) | ((with_reducible apply (wpl_storehash (t := 23))); (exact rfl); (exact rfl); infer_instance; infer_instance; (first | (with_reducible assumption) | omega | (focus (simp; done)) | (focus (simp; omega; done)) | decide); intro ws _ _))
        refine ⟨⟨k + 1, j / 2, nodeH h (hget l k), by omega, by go_num, ?_, by omega, Lib.hid (by rw [← HUP.out]; exact HU.out), stepN, inferInstance, inferInstance⟩, by simp [intOf]; omega⟩
        simp
      · have hb : (bits BinOp.and IntKind.i64 (j : Int) 1 == 0) = false := by rw [i64_and1]; simp; omega
        rw [if_neg hp] at hup
        have HUP := Lib.hid hup
        clear hup hp
        go_wp2_with (first | ((with_reducible apply (wpl_alloc (dst := some 8))); intro zt wzt _ _ _) | ((with_reducible apply (wpl_box_agg (dst := some 8))); (exact rfl); intro zt wzt _ _ _) | ((with_reducible apply (wpl_box_int (dst := some 8))); (exact rfl); intro zt wzt _ _ _) | ((with_reducible apply (wpl_box_slice (dst := some 8))); (exact rfl); intro zt wzt _ _ _) | ((with_reducible apply (wpl_box_str (dst := some 8))); (exact rfl); intro zt wzt _ _ _) | ((with_reducible apply (wpl_box_bool (dst := some 8))); (exact rfl); intro zt wzt _ _ _) | ((with_reducible apply (wpl_box_ptr (dst := some 8))); (exact rfl); intro zt wzt _ _ _) | ((with_reducible apply wpl_alloc); intro z wz _ _ _) | ((with_reducible apply wpl_box_agg); (exact rfl); intro z wz _ _ _) | ((with_reducible apply wpl_box_int); (exact rfl); intro z wz _ _ _) | ((with_reducible apply wpl_box_slice); (exact rfl); intro z wz _ _ _) | ((with_reducible apply wpl_box_str); (exact rfl); intro z wz _ _ _) | ((with_reducible apply wpl_box_bool); (exact rfl); intro z wz _ _ _) | ((with_reducible apply wpl_box_ptr); (exact rfl); intro z wz _ _ _) | ((with_reducible apply wpl_loadrow); (exact rfl); infer_instance; infer_instance; (first | (with_reducible assumption) | (with_reducible exact H32.size _) | kernel_rfl)) | ((with_reducible apply (wpl_loadint (t := 3))); (exact rfl); infer_instance; infer_instance; (first | (with_reducible assumption) | omega)) | ((with_reducible apply (wpl_loadbyte (t := 5))); (exact rfl); infer_instance; infer_instance; (first | (with_reducible assumption) | omega)) | ((with_reducible apply wpl_loadcell); (exact rfl); infer_instance; (exact rfl)) | ((with_reducible apply wpl_storerow); (exact rfl); (exact rfl); infer_instance; infer_instance; (first | (with_reducible assumption) | (with_reducible exact H32.size _) | kernel_rfl); (first | (with_reducible assumption) | (with_reducible exact H32.size _) | kernel_rfl); (first | (with_reducible exact u8s_one _) | (with_reducible assumption) | kernel_rfl); intro ws _ _) | ((with_reducible apply (wpl_storeint (t := 3))); (exact rfl); (exact rfl); infer_instance; (first | (with_reducible assumption) | omega); intro ws _ _) | ((with_reducible apply (wpl_storebyte (t := 5))); (exact rfl); (exact rfl); infer_instance; (first | (with_reducible assumption) | omega | (focus (simp; done)) | (focus (simp; omega; done)) | decide); (constructor <;> omega); intro ws _ _) | ((with_reducible apply wpl_storecell); (exact rfl); (exact rfl); infer_instance; (exact rfl); (first | (with_reducible assumption) | omega | (focus (simp; done)) | (focus (simp; omega; done)) | decide); intro ws _ _) | ((with_reducible apply wpl_indexH); (exact rfl); (exact rfl); infer_instance; infer_instance; (first | (with_reducible assumption) | omega); (first | (with_reducible assumption) | omega); (first | (with_reducible assumption) | omega)) | ((with_reducible apply wpl_indexH'); (exact rfl); (exact rfl); infer_instance; infer_instance; (first | (with_reducible assumption) | omega); (first | (with_reducible assumption) | omega); (first | (with_reducible assumption) | omega)) | ((with_reducible apply (wpl_loadhash (t := 23))); (exact rfl); infer_instance; infer_instance; (first | (with_reducible assumption) | omega)) | ((with_reducible apply (wpl_storehash (t := 23))); (exact rfl); (exact rfl); infer_instance; infer_instance; (first | (with_reducible assumption) | omega | (focus (simp; done)) | (focus (simp; omega; done)) | decide); intro ws _ _))
        refine (nodeC (hget l k) h _).mono ?_
        rintro e w4 ⟨rfl, _⟩
        go_wp2_with (first | ((with_reducible apply wpl_alloc); intro z wz _ _ _) | ((with_reducible apply wpl_box_agg); (exact rfl); intro z wz _ _ _) | ((with_reducible apply wpl_box_int); (exact rfl); intro z wz _ _ _) | ((with_reducible apply wpl_box_slice); (exact rfl); intro z wz _ _ _) | ((with_reducible apply wpl_box_str); (exact rfl); intro z wz _ _ _) | ((with_reducible apply wpl_box_bool); (exact rfl); intro z wz _ _ _) | ((with_reducible apply wpl_box_ptr); (exact rfl); intro z wz _ _ _) | ((with_reducible apply wpl_loadrow); (exact rfl); infer_instance; infer_instance; (first | (with_reducible assumption) | (with_reducible exact H32.size _) | kernel_rfl)) | ((with_reducible apply (wpl_loadint (t := 3))); (exact rfl); infer_instance; infer_instance; (first | (with_reducible assumption) | omega)) | ((with_reducible apply (wpl_loadbyte (t := 5))); (exact rfl); infer_instance; infer_instance; (first | (with_reducible assumption) | omega)) | ((with_reducible apply wpl_loadcell); (exact rfl); infer_instance; (exact rfl)) | ((with_reducible apply wpl_storerow); (exact rfl); (exact rfl); infer_instance; infer_instance; (first | (with_reducible assumption) | (with_reducible exact H32.size _) | kernel_rfl); (first | (with_reducible assumption) | (with_reducible exact H32.size _) | kernel_rfl); (first | (with_reducible exact u8s_one _) | (with_reducible assumption) | kernel_rfl); intro ws _ _) | ((with_reducible apply (wpl_storeint (t := 3))); (exact rfl); (exact rfl); infer_instance; (first | (with_reducible assumption) | omega); intro ws _ _) | ((with_reducible apply (wpl_storebyte (t := 5))); (exact rfl); (exact rfl); infer_instance; (first | (with_reducible assumption) | omega | (focus (simp; done)) | (focus (simp; omega; done)) | decide); (constructor <;> omega); intro ws _ _) | ((with_reducible apply wpl_storecell); (exact rfl); (exact rfl); infer_instance; (exact rfl); (first | (with_reducible assumption) | omega | (focus (simp; done)) | (focus (simp; omega; done)) | decide); intro ws _ _) | ((with_reducible apply wpl_indexH); (exact rfl); (exact rfl); infer_instance; infer_instance; (first | (with_reducible assumption) | omega); (first | (with_reducible assumption) | omega); (first | (with_reducible assumption) | omega)) | ((with_reducible apply wpl_indexH'); (exact rfl); (exact rfl); infer_instance; infer_instance; (first | (with_reducible assumption) | omega); (first | (with_reducible assumption) | omega); (first | (with_reducible assumption) | omega)) | ((with_reducible apply (wpl_loadhash (t := 23))); (exact rfl); infer_instance; infer_instance; (first | (with_reducible assumption) | omega)) | ((with_reducible apply (wpl_storehash (t := 23))); (exact rfl); (exact rfl); infer_instance; infer_instance; (first | (with_reducible assumption) | omega | (focus (simp; done)) | (focus (simp; omega; done)) | decide); intro ws _ _))
        refine ⟨⟨k + 1, j / 2, nodeH (hget l k) h, by omega, by go_num, ?_, by omega, Lib.hid (by rw [← HUP.out]; exact HU.out), stepN, inferInstance, inferInstance⟩, by simp [intOf]; omega⟩
        simp
    · have hge : n ≤ k := by omega
      have hR : h = R := by
        have := HU.out
        rw [List.drop_of_length_le (by have := HL.out; omega)] at this
        exact this
      have HRR := Lib.hid hR
      clear hR
      go_wp2_with (first | ((with_reducible apply (wpl_alloc (dst := some 8))); intro zt wzt _ _ _) | ((with_reducible apply (wpl_box_agg (dst := some 8))); (exact rfl); intro zt wzt _ _ _) | ((with_reducible apply (wpl_box_int (dst := some 8))); (exact rfl); intro zt wzt _ _ _) | ((with_reducible apply (wpl_box_slice (dst := some 8))); (exact rfl); intro zt wzt _ _ _) | ((with_reducible apply (wpl_box_str (dst := some 8))); (exact rfl); intro zt wzt _ _ _) | ((with_reducible apply (wpl_box_bool (dst := some 8))); (exact rfl); intro zt wzt _ _ _) | ((with_reducible apply (wpl_box_ptr (dst := some 8))); (exact rfl); intro zt wzt _ _ _) | ((with_reducible apply wpl_alloc); intro z wz _ _ _) | ((with_reducible apply wpl_box_agg); (exact rfl); intro z wz _ _ _) | ((with_reducible apply wpl_box_int); (exact rfl); intro z wz _ _ _) | ((with_reducible apply wpl_box_slice); (exact rfl); intro z wz _ _ _) | ((with_reducible apply wpl_box_str); (exact rfl); intro z wz _ _ _) | ((with_reducible apply wpl_box_bool); (exact rfl); intro z wz _ _ _) | ((with_reducible apply wpl_box_ptr); (exact rfl); intro z wz _ _ _) | ((with_reducible apply wpl_loadrow); (exact rfl); infer_instance; infer_instance; (first | (with_reducible assumption) | (with_reducible exact H32.size _) | kernel_rfl)) | ((with_reducible apply (wpl_loadint (t := 3))); (exact rfl); infer_instance; infer_instance; (first | (with_reducible assumption) | omega)) | ((with_reducible apply (wpl_loadbyte (t := 5))); (exact rfl); infer_instance; infer_instance; (first | (with_reducible assumption) | omega)) | ((with_reducible apply wpl_loadcell); (exact rfl); infer_instance; (exact rfl)) | ((with_reducible apply wpl_storerow); (exact rfl); (exact rfl); infer_instance; infer_instance; (first | (with_reducible assumption) | (with_reducible exact H32.size _) | kernel_rfl); (first | (with_reducible assumption) | (with_reducible exact H32.size _) | kernel_rfl); (first | (with_reducible exact u8s_one _) | (with_reducible assumption) | kernel_rfl); intro ws _ _) | ((with_reducible apply (wpl_storeint (t := 3))); (exact rfl); (exact rfl); infer_instance; (first | (with_reducible assumption) | omega); intro ws _ _) | ((with_reducible apply (wpl_storebyte (t := 5))); (exact rfl); (exact rfl); infer_instance; (first | (with_reducible assumption) | omega | (focus (simp; done)) | (focus (simp; omega; done)) | decide); (constructor <;> omega); intro ws _ _) | ((with_reducible apply wpl_storecell); (exact rfl); (exact rfl); infer_instance; (exact rfl); (first | (with_reducible assumption) | omega | (focus (simp; done)) | (focus (simp; omega; done)) | decide); intro ws _ _) | ((with_reducible apply wpl_indexH); (exact rfl); (exact rfl); infer_instance; infer_instance; (first | (with_reducible assumption) | omega); (first | (with_reducible assumption) | omega); (first | (with_reducible assumption) | omega)) | ((with_reducible apply wpl_indexH'); (exact rfl); (exact rfl); infer_instance; infer_instance; (first | (with_reducible assumption) | omega); (first | (with_reducible assumption) | omega); (first | (with_reducible assumption) | omega)) | ((with_reducible apply (wpl_loadhash (t := 23))); (exact rfl); infer_instance; infer_instance; (first | (with_reducible assumption) | omega)) | ((with_reducible apply (wpl_storehash (t := 23))); (exact rfl); (exact rfl); infer_instance; infer_instance; (first | (with_reducible assumption) | omega | (focus (simp; done)) | (focus (simp; omega; done)) | decide); intro ws _ _))
      refine ret_row rfl rfl (n := 32) (H32.size _) rfl ⟨?_, stepN⟩
      rw [HRR.out]
set_option maxRecDepth 100000 in
set_option maxHeartbeats 1600000 in
theorem rupC {A : Option Addr} {n c : Nat} {l : List H32} (leaf : H32) (i : Nat) {w : World} [hr : HR w A (cellsOf l)] (hl : l.length = n) (hn : n ≤ 1000) (hi : i ≤ 9223372036854775807) :
    Calls Try.prog 68 #[.agg (u8s leaf.l), .int .i64 (i : Int), .slice A n c] w fun e w' => e = .returned (.agg (u8s (upL leaf i l).l)) ∧ Step nowhere w w' := by
  obtain ⟨R, hR⟩ : ∃ R, R = upL leaf i l := ⟨_, rfl⟩
  have HL := Lib.hid hl
  have HR0 : Hid (upL leaf i (l.drop 0) = R) := Lib.hid (by rw [hR]; rfl)
  rw [← hR]
  clear hR
  go_enter Try.func68, Try.ntmps68
  go_wp2_with (first | ((with_reducible apply (wpl_alloc (dst := some 3))); intro zl wzl _ _ _) | ((with_reducible apply (wpl_box_agg (dst := some 3))); (exact rfl); intro zl wzl _ _ _) | ((with_reducible apply (wpl_box_int (dst := some 3))); (exact rfl); intro zl wzl _ _ _) | ((with_reducible apply (wpl_box_slice (dst := some 3))); (exact rfl); intro zl wzl _ _ _) | ((with_reducible apply (wpl_box_str (dst := some 3))); (exact rfl); intro zl wzl _ _ _) | ((with_reducible apply (wpl_box_bool (dst := some 3))); (exact rfl); intro zl wzl _ _ _) | ((with_reducible apply (wpl_box_ptr (dst := some 3))); (exact rfl); intro zl wzl _ _ _) | ((with_reducible apply (wpl_alloc (dst := some 6))); intro zo wzo _ _ _) | ((with_reducible apply (wpl_box_agg (dst := some 6))); (exact rfl); intro zo wzo _ _ _) | ((with_reducible apply (wpl_box_int (dst := some 6))); (exact rfl); intro zo wzo _ _ _) | ((with_reducible apply (wpl_box_slice (dst := some 6))); (exact rfl); intro zo wzo _ _ _) | ((with_reducible apply (wpl_box_str (dst := some 6))); (exact rfl); intro zo wzo _ _ _) | ((with_reducible apply (wpl_box_bool (dst := some 6))); (exact rfl); intro zo wzo _ _ _) | ((with_reducible apply (wpl_box_ptr (dst := some 6))); (exact rfl); intro zo wzo _ _ _) | ((with_reducible apply wpl_alloc); intro z wz _ _ _) | ((with_reducible apply wpl_box_agg); (exact rfl); intro z wz _ _ _) | ((with_reducible apply wpl_box_int); (exact rfl); intro z wz _ _ _) | ((with_reducible apply wpl_box_slice); (exact rfl); intro z wz _ _ _) | ((with_reducible apply wpl_box_str); (exact rfl); intro z wz _ _ _) | ((with_reducible apply wpl_box_bool); (exact rfl); intro z wz _ _ _) | ((with_reducible apply wpl_box_ptr); (exact rfl); intro z wz _ _ _) | ((with_reducible apply wpl_loadrow); (exact rfl); infer_instance; infer_instance; (first | (with_reducible assumption) | (with_reducible exact H32.size _) | kernel_rfl)) | ((with_reducible apply (wpl_loadint (t := 3))); (exact rfl); infer_instance; infer_instance; (first | (with_reducible assumption) | omega)) | ((with_reducible apply (wpl_loadbyte (t := 5))); (exact rfl); infer_instance; infer_instance; (first | (with_reducible assumption) | omega)) | ((with_reducible apply wpl_loadcell); (exact rfl); infer_instance; (exact rfl)) | ((with_reducible apply wpl_storerow); (exact rfl); (exact rfl); infer_instance; infer_instance; (first | (with_reducible assumption) | (with_reducible exact H32.size _) | kernel_rfl); (first | (with_reducible assumption) | (with_reducible exact H32.size _) | kernel_rfl); (first | (with_reducible exact u8s_one _) | (with_reducible assumption) | kernel_rfl); intro ws _ _) | ((with_reducible apply (wpl_storeint (t := 3))); (exact rfl); (exact rfl); infer_instance; (first | (with_reducible assumption) | omega); intro ws _ _) | ((with_reducible apply (wpl_storebyte (t := 5))); (exact rfl); (exact rfl); infer_instance; (first | (with_reducible assumption) | omega | (focus (simp; done)) | (focus (simp; omega; done)) | decide); (constructor <;> omega); intro ws _ _) | ((with_reducible apply wpl_storecell); (exact rfl); (exact rfl); infer_instance; (exact rfl); (first | (with_reducible assumption) | omega | (focus (simp; done)) | (focus (simp; omega; done)) | decide); intro ws _ _) | ((with_reducible apply wpl_indexH); (exact rfl); (exact rfl); infer_instance; infer_instance; (first | (with_reducible assumption) | omega); (first | (with_reducible assumption) | omega); (first | (with_reducible assumption) | omega)) | ((with_reducible apply wpl_indexH'); (exact rfl); (exact rfl); infer_instance; infer_instance; (first | (with_reducible assumption) | omega); (first | (with_reducible assumption) | omega); (first | (with_reducible assumption) | omega)) | ((with_reducible apply (wpl_loadhash (t := 23))); (exact rfl); infer_instance; infer_instance; (first | (with_reducible assumption) | omega)) | ((with_reducible apply (wpl_storehash (t := 23))); (exact rfl); (exact rfl); infer_instance; infer_instance; (first | (with_reducible assumption) | omega | (focus (simp; done)) | (focus (simp; omega; done)) | decide); intro ws _ _))
  go_loopw [1, 7] (fun iv kv wr => ∃ (k j : Nat) (h : H32), k ≤ n ∧ kv = .int .i64 (k : Int) ∧ iv = .int .i64 (j : Int) ∧ j ≤ 9223372036854775807 ∧ Hid (upL h j (l.drop k) = R) ∧ Step nowhere w wr ∧ HB wr zo 23 (u8s zeroH.l) ∧ HB wr zl 23 (u8s h.l)) (fun _ kv _ => n - (intOf kv).toNat)
  case atStart => exact ⟨0, i, leaf, Nat.zero_le _, rfl, rfl, hi, HR0, stepN, inferInstance, inferInstance⟩
  case round =>
    obtain ⟨k, j, h, hk, rfl, rfl, hj, HU, _, _, _⟩ := hrel
    by_cases hlt : k < n
    · have hkl : k < l.length := by have := HL.out; omega
      have hltI : (k : Int) < n := by omega
      have hup := upL_drop h j l k hkl
      by_cases hp : j % 2 = 0
      · have hb : (bits BinOp.and IntKind.i64 (j : Int) 1 == 0) = true := by rw [i64_and1]; simp; omega
        rw [if_pos hp] at hup
        have HUP := Lib.hid hup
        clear hup hp
        go_wp2_with (first | ((with_reducible apply wpl_alloc); intro z wz _ _ _) | ((with_reducible apply wpl_box_agg); (exact rfl); intro z wz _ _ _) | ((with_reducible apply wpl_box_int); (exact rfl); intro z wz _ _ _) | ((with_reducible apply wpl_box_slice); (exact rfl); intro z wz _ _ _) | ((with_reducible apply wpl_box_str); (exact rfl); intro z wz _ _ _) | ((with_reducible apply wpl_box_bool); (exact rfl); intro z wz _ _ _) | ((with_reducible apply wpl_box_ptr); (exact rfl); intro z wz _ _ _) | ((with_reducible apply wpl_loadrow); (exact rfl); infer_instance; infer_instance; (first | (with_reducible assumption) | (with_reducible exact H32.size _) | kernel_rfl)) | ((with_reducible apply (wpl_loadint (t := 3))); (exact rfl); infer_instance; infer_instance; (first | (with_reducible assumption) | omega)) | ((with_reducible apply (wpl_loadbyte (t := 5))); (exact rfl); infer_instance; infer_instance; (first | (with_reducible assumption) | omega)) | ((with_reducible apply wpl_loadcell); (exact rfl); infer_instance; (exact rfl)) | ((with_reducible apply wpl_storerow); (exact rfl); (exact rfl); infer_instance; infer_instance; (first | (with_reducible assumption) | (with_reducible exact H32.size _) | kernel_rfl); (first | (with_reducible assumption) | (with_reducible exact H32.size _) | kernel_rfl); (first | (with_reducible exact u8s_one _) | (with_reducible assumption) | kernel_rfl); intro ws _ _) | ((with_reducible apply (wpl_storeint (t := 3))); (exact rfl); (exact rfl); infer_instance; (first | (with_reducible assumption) | omega); intro ws _ _) | ((with_reducible apply (wpl_storebyte (t := 5))); (exact rfl); (exact rfl); infer_instance; (first | (with_reducible assumption) | omega | (focus (simp; done)) | (focus (simp; omega; done)) | decide); (constructor <;> omega); intro ws _ _) | ((with_reducible apply wpl_storecell); (exact rfl); (exact rfl); infer_instance; (exact rfl); (first | (with_reducible assumption) | omega | (focus (simp; done)) | (focus (simp; omega; done)) | decide); intro ws _ _) | ((with_reducible apply wpl_indexH); (exact rfl); (exact rfl); infer_instance; infer_instance; (first | (with_reducible assumption) | omega); (first | (with_reducible assumption) | omega); (first | (with_reducible assumption) | omega)) | ((with_reducible apply wpl_indexH'); (exact rfl); (exact rfl); infer_instance; infer_instance; (first | (with_reducible assumption) | omega); (first | (with_reducible assumption) | omega); (first | (with_reducible assumption) | omega)) | ((with_reducible apply (wpl_loadhash (t := 23))); (exact rfl); infer_instance; infer_instance; (first | (with_reducible assumption) | omega)) | ((with_reducible apply (wpl_storehash (t := 23))); (exact rfl); (exact rfl); infer_instance; infer_instance; (first | (with_reducible assumption) | omega | (focus (simp; done)) | (focus (simp; omega; done)) | decide); intro ws _ _))
        refine wp_region_N ((only zl)) (by kernel_rfl) (fun wd _ _ => ?_)
        refine' takeH (i := 1) (v := _) rfl (by kernel_rfl) (by kernel_rfl) (by kernel_rfl) (fun _ _ _ h => h) (yields_of (by rfl) (fun w' _ => ?_)) inferInstance ?_
        rotate_left
        · (go_simp; try with_reducible rfl)
        try simp only [Act.put, sA]; try simp only [sB, sC]
        refine' takeH (i := 2) (v := _) rfl (by kernel_rfl) (by kernel_rfl) (by kernel_rfl) (fun _ _ _ h => h) (yields_of (by rfl) (fun w' _ => ?_)) inferInstance ?_
        rotate_left
        · (go_simp; try with_reducible rfl)
        try simp only [Act.put, sA]; try simp only [sB, sC]
        refine' takeH (i := 3) (v := _) rfl (by kernel_rfl) (by kernel_rfl) (by kernel_rfl) (fun _ _ _ h => h) (yields_of (by rfl) (fun w' _ => ?_)) inferInstance ?_
        rotate_left
        · (first | ((with_reducible apply ev_indexH'); (exact rfl); (exact rfl); infer_instance; infer_instance; (first | (with_reducible assumption) | omega); (first | (with_reducible assumption) | omega); (first | (with_reducible assumption) | omega)) | ((with_reducible apply ev_indexH); (exact rfl); (exact rfl); infer_instance; infer_instance; (first | (with_reducible assumption) | omega); (first | (with_reducible assumption) | omega)) | (go_simp; try with_reducible rfl))
        try simp only [Act.put, sA]; try simp only [sB, sC]
        refine' takeH (i := 4) (v := _) rfl (by kernel_rfl) (by kernel_rfl) (by kernel_rfl) (fun _ _ _ h => h) (yields_of (by rfl) (fun w' _ => ?_)) inferInstance ?_
        rotate_left
        · (first | ((with_reducible apply ev_loadrow); (exact rfl); infer_instance; infer_instance; (first | (with_reducible assumption) | (with_reducible exact H32.size _) | kernel_rfl)) | ((with_reducible apply (ev_loadhash (t := 23))); (exact rfl); infer_instance; infer_instance; (first | (with_reducible assumption) | omega)) | ((with_reducible apply (ev_loadint (t := 3))); (exact rfl); infer_instance; infer_instance; (first | (with_reducible assumption) | omega)) | ((with_reducible apply (ev_loadbyte (t := 5))); (exact rfl); infer_instance; infer_instance; (first | (with_reducible assumption) | omega)) | ((with_reducible apply ev_loadcell); (exact rfl); infer_instance; infer_instance; (exact rfl)) | (go_simp; try with_reducible rfl))
        try simp only [Act.put, sA]; try simp only [sB, sC]
        refine goH (i := 0) (by kernel_rfl) rfl (fun K_ hK_ => ?_)
        rw [if_pos (by kernel_rfl)]
        refine wpr_of_list ?_
        (first | ((with_reducible apply wpl_loadrow); (exact rfl); infer_instance; infer_instance; (first | (with_reducible assumption) | (with_reducible exact H32.size _) | kernel_rfl)) | ((with_reducible apply (wpl_loadint (t := 3))); (exact rfl); infer_instance; infer_instance; (first | (with_reducible assumption) | omega)) | ((with_reducible apply (wpl_loadbyte (t := 5))); (exact rfl); infer_instance; infer_instance; (first | (with_reducible assumption) | omega)) | ((with_reducible apply wpl_loadcell); (exact rfl); infer_instance; (exact rfl)) | ((with_reducible apply (wpl_loadhash (t := 23))); (exact rfl); infer_instance; infer_instance; (first | (with_reducible assumption) | omega)))
        refine wpList_nil ?_
        unfold onlyN
        refine hK_.out _ _ inferInstance (fun _ => ?_)
        clear hK_ K_
        try simp only [Act.put, sA]; try simp only [sB, sC]
        refine goH (i := 5) (by kernel_rfl) rfl (fun K_ hK_ => ?_)
        go_simp
        refine (rnodeC h (hget l k) _).mono ?_
        rintro e w4 ⟨rfl, _⟩
        refine hK_.out _ _ inferInstance (fun _ => ?_)
        clear hK_ K_
        try simp only [Act.put, sA]; try simp only [sB, sC]
        refine goH (i := 6) (by kernel_rfl) rfl (fun K_ hK_ => ?_)
        rw [if_pos (by kernel_rfl)]
        refine wpr_of_list ?_
        (first | ((with_reducible apply wpl_storerow); (exact rfl); (exact rfl); infer_instance; infer_instance; (first | (with_reducible assumption) | (with_reducible exact H32.size _) | kernel_rfl); (first | (with_reducible assumption) | (with_reducible exact H32.size _) | kernel_rfl); (first | (with_reducible exact u8s_one _) | (with_reducible assumption) | kernel_rfl); intro ws _ _) | ((with_reducible apply (wpl_storeint (t := 3))); (exact rfl); (exact rfl); infer_instance; (first | (with_reducible assumption) | omega); intro ws _ _) | ((with_reducible apply (wpl_storebyte (t := 5))); (exact rfl); (exact rfl); infer_instance; (first | (with_reducible assumption) | omega | (focus (simp; done)) | (focus (simp; omega; done)) | decide); (constructor <;> omega); intro ws _ _) | ((with_reducible apply wpl_storecell); (exact rfl); (exact rfl); infer_instance; (exact rfl); (first | (with_reducible assumption) | omega | (focus (simp; done)) | (focus (simp; omega; done)) | decide); intro ws _ _) | ((with_reducible apply (wpl_storehash (t := 23))); (exact rfl); (exact rfl); infer_instance; infer_instance; (first | (with_reducible assumption) | omega | (focus (simp; done)) | (focus (simp; omega; done)) | decide); intro ws _ _))
        refine wpList_nil ?_
        unfold onlyN
        refine hK_.out _ _ inferInstance (fun _ => ?_)
        clear hK_ K_
        try simp only [Act.put]
        refine wpAnyH_done (by kernel_rfl) ?_ _
        go_wp2_with (first | ((with_reducible apply wpl_alloc); intro z wz _ _ _) | ((with_reducible apply wpl_box_agg); (exact rfl); intro z wz _ _ _) | ((with_reducible apply wpl_box_int); (exact rfl); intro z wz _ _ _) | ((with_reducible apply wpl_box_slice); (exact rfl); intro z wz _ _ _) | ((with_reducible apply wpl_box_str); (exact rfl); intro z wz _ _ _) | ((with_reducible apply wpl_box_bool); (exact rfl); intro z wz _ _ _) | ((with_reducible apply wpl_box_ptr); (exact rfl); intro z wz _ _ _) | ((with_reducible apply wpl_loadrow); (exact rfl); infer_instance; infer_instance; (first | (with_reducible assumption) | (with_reducible exact H32.size _) | kernel_rfl)) | ((with_reducible apply (wpl_loadint (t := 3))); (exact rfl); infer_instance; infer_instance; (first | (with_reducible assumption) | omega)) | ((with_reducible apply (wpl_loadbyte (t := 5))); (exact rfl); infer_instance; infer_instance; (first | (with_reducible assumption) | omega)) | ((with_reducible apply wpl_loadcell); (exact rfl); infer_instance; (exact rfl)) | ((with_reducible apply wpl_storerow); (exact rfl); (exact rfl); infer_instance; infer_instance; (first | (with_reducible assumption) | (with_reducible exact H32.size _) | kernel_rfl); (first | (with_reducible assumption) | (with_reducible exact H32.size _) | kernel_rfl); (first | (with_reducible exact u8s_one _) | (with_reducible assumption) | kernel_rfl); intro ws _ _) | ((with_reducible apply (wpl_storeint (t := 3))); (exact rfl); (exact rfl); infer_instance; (first | (with_reducible assumption) | omega); intro ws _ _) | ((with_reducible apply (wpl_storebyte (t := 5))); (exact rfl); (exact rfl); infer_instance; (first | (with_reducible assumption) | omega | (focus (simp; done)) | (focus (simp; omega; done)) | decide); (constructor <;> omega); intro ws _ _) | ((with_reducible apply wpl_storecell); (exact rfl); (exact rfl); infer_instance; (exact rfl); (first | (with_reducible assumption) | omega | (focus (simp; done)) | (focus (simp; omega; done)) | decide); intro ws _ _) | ((with_reducible apply wpl_indexH); (exact rfl); (exact rfl); infer_instance; infer_instance; (first | (with_reducible assumption) | omega); (first | (with_reducible assumption) | omega); (first | (with_reducible assumption) | omega)) | ((with_reducible apply wpl_indexH'); (exact rfl); (exact rfl); infer_instance; infer_instance; (first | (with_reducible assumption) | omega); (first | (with_reducible assumption) | omega); (first | (with_reducible assumption) | omega)) | ((with_reducible apply (wpl_loadhash (t := 23))); (exact rfl); infer_instance; infer_instance; (first | (with_reducible assumption) | omega)) | ((with_reducible apply (wpl_storehash (t := 23))); (exact rfl); (exact rfl); infer_instance; infer_instance; (first | (with_reducible assumption) | omega | (focus (simp; done)) | (focus (simp; omega; done)) | decide); intro ws _ _))
        refine ⟨⟨k + 1, j / 2, nodeH h (hget l k), by omega, by go_num, ?_, by omega, Lib.hid (by rw [← HUP.out]; exact HU.out), stepN, inferInstance, inferInstance⟩, by simp [intOf]; omega⟩
        simp
      · have hb : (bits BinOp.and IntKind.i64 (j : Int) 1 == 0) = false := by rw [i64_and1]; simp; omega
        rw [if_neg hp] at hup
        have HUP := Lib.hid hup
        clear hup hp
        go_wp2_with (first | ((with_reducible apply wpl_alloc); intro z wz _ _ _) | ((with_reducible apply wpl_box_agg); (exact rfl); intro z wz _ _ _) | ((with_reducible apply wpl_box_int); (exact rfl); intro z wz _ _ _) | ((with_reducible apply wpl_box_slice); (exact rfl); intro z wz _ _ _) | ((with_reducible apply wpl_box_str); (exact rfl); intro z wz _ _ _) | ((with_reducible apply wpl_box_bool); (exact rfl); intro z wz _ _ _) | ((with_reducible apply wpl_box_ptr); (exact rfl); intro z wz _ _ _) | ((with_reducible apply wpl_loadrow); (exact rfl); infer_instance; infer_instance; (first | (with_reducible assumption) | (with_reducible exact H32.size _) | kernel_rfl)) | ((with_reducible apply (wpl_loadint (t := 3))); (exact rfl); infer_instance; infer_instance; (first | (with_reducible assumption) | omega)) | ((with_reducible apply (wpl_loadbyte (t := 5))); (exact rfl); infer_instance; infer_instance; (first | (with_reducible assumption) | omega)) | ((with_reducible apply wpl_loadcell); (exact rfl); infer_instance; (exact rfl)) | ((with_reducible apply wpl_storerow); (exact rfl); (exact rfl); infer_instance; infer_instance; (first | (with_reducible assumption) | (with_reducible exact H32.size _) | kernel_rfl); (first | (with_reducible assumption) | (with_reducible exact H32.size _) | kernel_rfl); (first | (with_reducible exact u8s_one _) | (with_reducible assumption) | kernel_rfl); intro ws _ _) | ((with_reducible apply (wpl_storeint (t := 3))); (exact rfl); (exact rfl); infer_instance; (first | (with_reducible assumption) | omega); intro ws _ _) | ((with_reducible apply (wpl_storebyte (t := 5))); (exact rfl); (exact rfl); infer_instance; (first | (with_reducible assumption) | omega | (focus (simp; done)) | (focus (simp; omega; done)) | decide); (constructor <;> omega); intro ws _ _) | ((with_reducible apply wpl_storecell); (exact rfl); (exact rfl); infer_instance; (exact rfl); (first | (with_reducible assumption) | omega | (focus (simp; done)) | (focus (simp; omega; done)) | decide); intro ws _ _) | ((with_reducible apply wpl_indexH); (exact rfl); (exact rfl); infer_instance; infer_instance; (first | (with_reducible assumption) | omega); (first | (with_reducible assumption) | omega); (first | (with_reducible assumption) | omega)) | ((with_reducible apply wpl_indexH'); (exact rfl); (exact rfl); infer_instance; infer_instance; (first | (with_reducible assumption) | omega); (first | (with_reducible assumption) | omega); (first | (with_reducible assumption) | omega)) | ((with_reducible apply (wpl_loadhash (t := 23))); (exact rfl); infer_instance; infer_instance; (first | (with_reducible assumption) | omega)) | ((with_reducible apply (wpl_storehash (t := 23))); (exact rfl); (exact rfl); infer_instance; infer_instance; (first | (with_reducible assumption) | omega | (focus (simp; done)) | (focus (simp; omega; done)) | decide); intro ws _ _))
        refine wp_region_N ((only zl)) (by kernel_rfl) (fun wd _ _ => ?_)
        refine' takeH (i := 0) (v := _) rfl (by kernel_rfl) (by kernel_rfl) (by kernel_rfl) (fun _ _ _ h => h) (yields_of (by rfl) (fun w' _ => ?_)) inferInstance ?_
        rotate_left
        · (go_simp; try with_reducible rfl)
        try simp only [Act.put, sA]; try simp only [sB, sC]
        refine' takeH (i := 1) (v := _) rfl (by kernel_rfl) (by kernel_rfl) (by kernel_rfl) (fun _ _ _ h => h) (yields_of (by rfl) (fun w' _ => ?_)) inferInstance ?_
        rotate_left
        · (go_simp; try with_reducible rfl)
        try simp only [Act.put, sA]; try simp only [sB, sC]
        refine' takeH (i := 2) (v := _) rfl (by kernel_rfl) (by kernel_rfl) (by kernel_rfl) (fun _ _ _ h => h) (yields_of (by rfl) (fun w' _ => ?_)) inferInstance ?_
        rotate_left
        · (first | ((with_reducible apply ev_indexH'); (exact rfl); (exact rfl); infer_instance; infer_instance; (first | (with_reducible assumption) | omega); (first | (with_reducible assumption) | omega); (first | (with_reducible assumption) | omega)) | ((with_reducible apply ev_indexH); (exact rfl); (exact rfl); infer_instance; infer_instance; (first | (with_reducible assumption) | omega); (first | (with_reducible assumption) | omega)) | (go_simp; try with_reducible rfl))
        try simp only [Act.put, sA]; try simp only [sB, sC]
        refine' takeH (i := 3) (v := _) rfl (by kernel_rfl) (by kernel_rfl) (by kernel_rfl) (fun _ _ _ h => h) (yields_of (by rfl) (fun w' _ => ?_)) inferInstance ?_
        rotate_left
        · (first | ((with_reducible apply ev_loadrow); (exact rfl); infer_instance; infer_instance; (first | (with_reducible assumption) | (with_reducible exact H32.size _) | kernel_rfl)) | ((with_reducible apply (ev_loadhash (t := 23))); (exact rfl); infer_instance; infer_instance; (first | (with_reducible assumption) | omega)) | ((with_reducible apply (ev_loadint (t := 3))); (exact rfl); infer_instance; infer_instance; (first | (with_reducible assumption) | omega)) | ((with_reducible apply (ev_loadbyte (t := 5))); (exact rfl); infer_instance; infer_instance; (first | (with_reducible assumption) | omega)) | ((with_reducible apply ev_loadcell); (exact rfl); infer_instance; infer_instance; (exact rfl)) | (go_simp; try with_reducible rfl))
        try simp only [Act.put, sA]; try simp only [sB, sC]
        refine goH (i := 4) (by kernel_rfl) rfl (fun K_ hK_ => ?_)
        rw [if_pos (by kernel_rfl)]
        refine wpr_of_list ?_
        (first | ((with_reducible apply wpl_loadrow); (exact rfl); infer_instance; infer_instance; (first | (with_reducible assumption) | (with_reducible exact H32.size _) | kernel_rfl)) | ((with_reducible apply (wpl_loadint (t := 3))); (exact rfl); infer_instance; infer_instance; (first | (with_reducible assumption) | omega)) | ((with_reducible apply (wpl_loadbyte (t := 5))); (exact rfl); infer_instance; infer_instance; (first | (with_reducible assumption) | omega)) | ((with_reducible apply wpl_loadcell); (exact rfl); infer_instance; (exact rfl)) | ((with_reducible apply (wpl_loadhash (t := 23))); (exact rfl); infer_instance; infer_instance; (first | (with_reducible assumption) | omega)))
        refine wpList_nil ?_
        unfold onlyN
        refine hK_.out _ _ inferInstance (fun _ => ?_)
        clear hK_ K_
        try simp only [Act.put, sA]; try simp only [sB, sC]
        refine goH (i := 5) (by kernel_rfl) rfl (fun K_ hK_ => ?_)
        go_simp
        refine (rnodeC (hget l k) h _).mono ?_
        rintro e w4 ⟨rfl, _⟩
        refine hK_.out _ _ inferInstance (fun _ => ?_)
        clear hK_ K_
        try simp only [Act.put, sA]; try simp only [sB, sC]
        refine goH (i := 6) (by kernel_rfl) rfl (fun K_ hK_ => ?_)
        rw [if_pos (by kernel_rfl)]
        refine wpr_of_list ?_
        (first | ((with_reducible apply wpl_storerow); (exact rfl); (exact rfl); infer_instance; infer_instance; (first | (with_reducible assumption) | (with_reducible exact H32.size _) | kernel_rfl); (first | (with_reducible assumption) | (with_reducible exact H32.size _) | kernel_rfl); (first | (with_reducible exact u8s_one _) | (with_reducible assumption) | kernel_rfl); intro ws _ _) | ((with_reducible apply (wpl_storeint (t := 3))); (exact rfl); (exact rfl); infer_instance; (first | (with_reducible assumption) | omega); intro ws _ _) | ((with_reducible apply (wpl_storebyte (t := 5))); (exact rfl); (exact rfl); infer_instance; (first | (with_reducible assumption) | omega | (focus (simp; done)) | (focus (simp; omega; done)) | decide); (constructor <;> omega); intro ws _ _) | ((with_reducible apply wpl_storecell); (exact rfl); (exact rfl); infer_instance; (exact rfl); (first | (with_reducible assumption) | omega | (focus (simp; done)) | (focus (simp; omega; done)) | decide); intro ws _ _) | ((with_reducible apply (wpl_storehash (t := 23))); (exact rfl); (exact rfl); infer_instance; infer_instance; (first | (with_reducible assumption) | omega | (focus (simp; done)) | (focus (simp; omega; done)) | decide); intro ws _ _))
        refine wpList_nil ?_
        unfold onlyN
        refine hK_.out _ _ inferInstance (fun _ => ?_)
        clear hK_ K_
        try simp only [Act.put]
        refine wpAnyH_done (by kernel_rfl) ?_ _
        go_wp2_with (first | ((with_reducible apply wpl_alloc); intro z wz _ _ _) | ((with_reducible apply wpl_box_agg); (exact rfl); intro z wz _ _ _) | ((with_reducible apply wpl_box_int); (exact rfl); intro z wz _ _ _) | ((with_reducible apply wpl_box_slice); (exact rfl); intro z wz _ _ _) | ((with_reducible apply wpl_box_str); (exact rfl); intro z wz _ _ _) | ((with_reducible apply wpl_box_bool); (exact rfl); intro z wz _ _ _) | ((with_reducible apply wpl_box_ptr); (exact rfl); intro z wz _ _ _) | ((with_reducible apply wpl_loadrow); (exact rfl); infer_instance; infer_instance; (first | (with_reducible assumption) | (with_reducible exact H32.size _) | kernel_rfl)) | ((with_reducible apply (wpl_loadint (t := 3))); (exact rfl); infer_instance; infer_instance; (first | (with_reducible assumption) | omega)) | ((with_reducible apply (wpl_loadbyte (t := 5))); (exact rfl); infer_instance; infer_instance; (first | (with_reducible assumption) | omega)) | ((with_reducible apply wpl_loadcell); (exact rfl); infer_instance; (exact rfl)) | ((with_reducible apply wpl_storerow); (exact rfl); (exact rfl); infer_instance; infer_instance; (first | (with_reducible assumption) | (with_reducible exact H32.size _) | kernel_rfl); (first | (with_reducible assumption) | (with_reducible exact H32.size _) | kernel_rfl); (first | (with_reducible exact u8s_one _) | (with_reducible assumption) | kernel_rfl); intro ws _ _) | ((with_reducible apply (wpl_storeint (t := 3))); (exact rfl); (exact rfl); infer_instance; (first | (with_reducible assumption) | omega); intro ws _ _) | ((with_reducible apply (wpl_storebyte (t := 5))); (exact rfl); (exact rfl); infer_instance; (first | (with_reducible assumption) | omega | (focus (simp; done)) | (focus (simp; omega; done)) | decide); (constructor <;> omega); intro ws _ _) | ((with_reducible apply wpl_storecell); (exact rfl); (exact rfl); infer_instance; (exact rfl); (first | (with_reducible assumption) | omega | (focus (simp; done)) | (focus (simp; omega; done)) | decide); intro ws _ _) | ((with_reducible apply wpl_indexH); (exact rfl); (exact rfl); infer_instance; infer_instance; (first | (with_reducible assumption) | omega); (first | (with_reducible assumption) | omega); (first | (with_reducible assumption) | omega)) | ((with_reducible apply wpl_indexH'); (exact rfl); (exact rfl); infer_instance; infer_instance; (first | (with_reducible assumption) | omega); (first | (with_reducible assumption) | omega); (first | (with_reducible assumption) | omega)) | ((with_reducible apply (wpl_loadhash (t := 23))); (exact rfl); infer_instance; infer_instance; (first | (with_reducible assumption) | omega)) | ((with_reducible apply (wpl_storehash (t := 23))); (exact rfl); (exact rfl); infer_instance; infer_instance; (first | (with_reducible assumption) | omega | (focus (simp; done)) | (focus (simp; omega; done)) | decide); intro ws _ _))
        refine ⟨⟨k + 1, j / 2, nodeH (hget l k) h, by omega, by go_num, ?_, by omega, Lib.hid (by rw [← HUP.out]; exact HU.out), stepN, inferInstance, inferInstance⟩, by simp [intOf]; omega⟩
        simp
    · have hge : n ≤ k := by omega
      have hR : h = R := by
        have := HU.out
        rw [List.drop_of_length_le (by have := HL.out; omega)] at this
        exact this
      have HRR := Lib.hid hR
      clear hR
      go_wp2_with (first | ((with_reducible apply wpl_alloc); intro z wz _ _ _) | ((with_reducible apply wpl_box_agg); (exact rfl); intro z wz _ _ _) | ((with_reducible apply wpl_box_int); (exact rfl); intro z wz _ _ _) | ((with_reducible apply wpl_box_slice); (exact rfl); intro z wz _ _ _) | ((with_reducible apply wpl_box_str); (exact rfl); intro z wz _ _ _) | ((with_reducible apply wpl_box_bool); (exact rfl); intro z wz _ _ _) | ((with_reducible apply wpl_box_ptr); (exact rfl); intro z wz _ _ _) | ((with_reducible apply wpl_loadrow); (exact rfl); infer_instance; infer_instance; (first | (with_reducible assumption) | (with_reducible exact H32.size _) | kernel_rfl)) | ((with_reducible apply (wpl_loadint (t := 3))); (exact rfl); infer_instance; infer_instance; (first | (with_reducible assumption) | omega)) | ((with_reducible apply (wpl_loadbyte (t := 5))); (exact rfl); infer_instance; infer_instance; (first | (with_reducible assumption) | omega)) | ((with_reducible apply wpl_loadcell); (exact rfl); infer_instance; (exact rfl)) | ((with_reducible apply wpl_storerow); (exact rfl); (exact rfl); infer_instance; infer_instance; (first | (with_reducible assumption) | (with_reducible exact H32.size _) | kernel_rfl); (first | (with_reducible assumption) | (with_reducible exact H32.size _) | kernel_rfl); (first | (with_reducible exact u8s_one _) | (with_reducible assumption) | kernel_rfl); intro ws _ _) | ((with_reducible apply (wpl_storeint (t := 3))); (exact rfl); (exact rfl); infer_instance; (first | (with_reducible assumption) | omega); intro ws _ _) | ((with_reducible apply (wpl_storebyte (t := 5))); (exact rfl); (exact rfl); infer_instance; (first | (with_reducible assumption) | omega | (focus (simp; done)) | (focus (simp; omega; done)) | decide); (constructor <;> omega); intro ws _ _) | ((with_reducible apply wpl_storecell); (exact rfl); (exact rfl); infer_instance; (exact rfl); (first | (with_reducible assumption) | omega | (focus (simp; done)) | (focus (simp; omega; done)) | decide); intro ws _ _) | ((with_reducible apply wpl_indexH); (exact rfl); (exact rfl); infer_instance; infer_instance; (first | (with_reducible assumption) | omega); (first | (with_reducible assumption) | omega); (first | (with_reducible assumption) | omega)) | ((with_reducible apply wpl_indexH'); (exact rfl); (exact rfl); infer_instance; infer_instance; (first | (with_reducible assumption) | omega); (first | (with_reducible assumption) | omega); (first | (with_reducible assumption) | omega)) | ((with_reducible apply (wpl_loadhash (t := 23))); (exact rfl); infer_instance; infer_instance; (first | (with_reducible assumption) | omega)) | ((with_reducible apply (wpl_storehash (t := 23))); (exact rfl); (exact rfl); infer_instance; infer_instance; (first | (with_reducible assumption) | omega | (focus (simp; done)) | (focus (simp; omega; done)) | decide); intro ws _ _))
      refine ret_row rfl rfl (n := 32) (H32.size _) rfl ⟨?_, stepN⟩
      rw [HRR.out]
end Go.Proofs.Ytmijlojjkgeplaa
end
section
open Go Go.RowKit
namespace Go.Proofs.Ytmijlojjkgeplaa
theorem nth_app {α : Type} : ∀ (l m : List α) (k : Nat), nth (l ++ m) (l.length + k) = nth m k
  | [], m, k => by simp
  | x :: l, m, k => by
    rw [List.cons_append, List.length_cons, show l.length + 1 + k = (l.length + k) + 1 by omega, nth, nth_app l m k]
theorem HR.ofBlkL {w : World} {z : Nat} {t : TypeId} {cs : Array Value} (h : HB w z t cs) : HR w (some ⟨z, 0, none⟩) cs.toList := ⟨fun k u hk => by
  refine ⟨_, rfl, ?_⟩
  rw [add_row, h.out.cell k]
  simpa using hk⟩
theorem ptr0 (g k : Nat) : ptrOf (some ⟨g, 0, none⟩) k = .pointer (some ⟨g, k, none⟩) := by rw [ptrOf, shift_some, add_row]
def keyL (seed : H32) (used : Int) (gr : Bool) (tree : List H32) : List Value := bs seed.l ++ (.int .i64 used :: .bool gr :: cellsOf tree)
def leavesS (seed : H32) : List H32 := (List.range 16).map fun (i : Nat) => publicS seed (i : Int)
theorem leavesS_len (seed : H32) : (leavesS seed).length = 16 := by simp [leavesS]
section
variable {seed : H32} {used : Int} {gr : Bool} {tree : List H32}
theorem bsl (h : H32) : (bs h.l).length = 32 := by rw [bs_length, H32.len]
end
/-- a key of this seed, so many leaves used -/
class KeyAt (w : World) (z : Nat) (seed : outParam H32) (used : outParam Int) : Prop where
  out : ∃ gr tree, tree.length = 16 ∧ (gr = true → tree = leavesS seed) ∧ HB w z 99 (keyL seed used gr tree).toArray
def KI (z : Nat) (seed : H32) (used : Int) : World → Prop := fun w => KeyAt w z seed used
instance KeyAt.step (S : Nat → Prop) (w w' : World) (z : Nat) (seed : H32) (used : Int) [s : Step S w w'] [h : KeyAt w z seed used] [o : OffB S z] : KeyAt w' z seed used := ⟨by
  obtain ⟨gr, tree, h1, h2, h3⟩ := h.out
  exact ⟨gr, tree, h1, h2, inferInstance⟩⟩
instance KI.of (w : World) (z : Nat) (seed : H32) (used : Int) [h : KeyAt w z seed used] : Inv (KI z seed used) w := ⟨h⟩
instance (priority := 400) KeyAt.ofI (w : World) (z : Nat) (seed : H32) (used : Int) (T : Nat → Prop) (wd : World) [h : HeldI (KI z seed used) T wd w] : KeyAt w z seed used := h.inv
theorem KeyAt.lt {w : World} {z : Nat} {seed : H32} {used : Int} (h : KeyAt w z seed used) : z < w.heap.size := by
  obtain ⟨_, _, _, _, h3⟩ := h.out
  exact h3.out.lt
instance OffB.bornKey (w : World) (z g : Nat) (seed : H32) (used : Int) [b : Born w z] [h : KeyAt w g seed used] : OffB (only z) g := ⟨fun e => by
  have e' : g = z := e
  have := h.lt
  rw [e', b.eq] at this
  omega⟩
instance OffA.newKey (w : World) (z : Nat) (A : Option Addr) (seed : H32) (used : Int) [b : NewA w A] [h : KeyAt w z seed used] : OffA (only z) A := ⟨fun ad e hk => by
  have h1 := b.out ad e
  have h2 := h.lt
  have hk' : ad.block = z := hk
  omega⟩
instance OffR.newKey (w : World) (z : Nat) (A : Option Addr) (vs : List Value) (seed : H32) (used : Int) [b : NewA w A] [h : KeyAt w z seed used] : OffR (only z) A vs := ⟨fun _ ad e hk => by
  have h1 := b.out ad e
  have h2 := h.lt
  have hk' : ad.block = z := hk
  omega⟩
instance OffB.laterKey (w : World) (z g : Nat) (seed : H32) (used : Int) [b : Born w g] [h : KeyAt w z seed used] : OffB (only z) g := ⟨fun e => by
  have e' : g = z := e
  have := h.lt
  rw [← e', b.eq] at this
  omega⟩
section
variable {P : Program} {ops : Array Oper} {rest : List Oper} {a : Act} {w : World} {Q : Exit → Act → World → Prop} {dst : Option Tmp} {ty : TypeId} {pos : String} {after : Array Edge} {gd : Option (Nat × Bool)}
variable {seed : H32} {used : Int} {gr : Bool} {tree : List H32}
/-- a whole array as a slice -/
theorem wpl_sliceAr {t e : TypeId} {x : Operand} {g k m s : Nat} (hx : a.eval x = .pointer (some ⟨g, k, none⟩)) (hu : P.underlying t = some (.array m e)) (hs : (P.info? e).map (·.size) = some s)
    (h : wpList P ops Q rest (a.put dst (.slice (some ⟨g, k, none⟩) m m)) w) : wpList P ops Q (⟨dst, .slice t x none none none, ty, pos, after, none⟩ :: rest) a w :=
  wpl_of_run rfl (by
    show ((Instr.sliceAt t (a.eval x) none none none) >>= fun v => pure (Next.value v)).run P w = _
    rw [hx]
    cases hq : P.info? e with
    | none => rw [hq] at hs; simp at hs
    | some j =>
      rw [hq] at hs
      simp at hs
      simp [Instr.sliceAt, run_underlying hu, Instr.sureAddr, Instr.sliceBounds, sizeOf, typeInfo, hq, add_zero_spot]) h
end
end Go.Proofs.Ytmijlojjkgeplaa
end
section
open Go Go.RowKit
namespace Go.Proofs.Ytmijlojjkgeplaa
class NewB (w : outParam World) (g : Nat) : Prop where
  out : w.heap.size ≤ g
instance Above.newB (w0 w : World) (g : Nat) [b : NewB w g] [n : Nw w0 w] : Above w0 (only g) := ⟨fun k h => by
  have h' : k = g := h
  rw [h']
  exact Nat.le_trans n.out.size b.out⟩
instance (priority := 900) OffB.newB1 (w : World) (g z : Nat) (t : TypeId) (cs : Array Value) [b : NewB w g] [h : HB w z t cs] : OffB (only g) z := ⟨fun e => by
  have e' : z = g := e
  have := h.out.lt
  have := b.out
  omega⟩
instance (priority := 900) OffB.newB2 (w : World) (g z : Nat) (seed : H32) (used : Int) [b : NewB w g] [h : KeyAt w z seed used] : OffB (only g) z := ⟨fun e => by
  have e' : z = g := e
  have := h.lt
  have := b.out
  omega⟩
instance (priority := 900) OffB.newB3 (w : World) (g z : Nat) (t : TypeId) (cs : Array Value) [b : NewB w g] [h : HB w z t cs] : OffB (only z) g := ⟨fun e => by
  have e' : g = z := e
  have := h.out.lt
  have := b.out
  omega⟩
instance (priority := 900) OffR.newB1 (w : World) (g : Nat) (A : Option Addr) (vs : List Value) [b : NewB w g] [h : HR w A vs] : OffR (only g) A vs := ⟨fun hne ad e hk => by
  have h1 := rd_lt h.out hne e
  have hk' : ad.block = g := hk
  have := b.out
  omega⟩
instance : ZeroT Try.prog 35 #[.int .i64 0, .slice none 0 0, .slice none 0 0] := ⟨.agg #[.int .i64 0, .slice none 0 0, .slice none 0 0], fun _ => by kernel_rfl, rfl⟩
instance : RowT Try.prog 35 3 := ⟨by kernel_rfl, _, Try.underlying35, rfl⟩
instance : CellT Try.prog 31 := ⟨fun _ => by kernel_rfl, fun _ => by kernel_rfl⟩
instance : CellT Try.prog 4 := ⟨fun _ => by kernel_rfl, fun _ => by kernel_rfl⟩
def tree0 : List H32 := List.replicate 16 zeroH
def oneH : H32 := ⟨1 :: List.replicate 31 0, rfl⟩
end Go.Proofs.Ytmijlojjkgeplaa
end
