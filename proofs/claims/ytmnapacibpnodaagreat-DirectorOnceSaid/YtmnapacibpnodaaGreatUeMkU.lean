/- MkH, MkA, MkB, MkC, MkU -/
import Derived.Test.YtmnapacibpnodaaGreatUeBase
import Derived.Test.YtmnapacibpnodaaGreatShelf
import Derived.Test.YtmnapacibpnodaaGreatUeHashes
section
open Go Go.RowKit
namespace Go.Proofs.YtmnapacibpnodaaGreat
def halfN (n : Nat) : Nat := 2 ^ Nat.log2 (n - 1)
theorem halfN_in (n : Nat) (h : 2 ≤ n) : 1 ≤ halfN n ∧ halfN n < n ∧ n ≤ 2 * halfN n := by
  have h1 : n - 1 ≠ 0 := by omega
  have h2 := Nat.log2_self_le h1
  have h3 := @Nat.lt_log2_self (n - 1)
  have h4 : 2 ^ (Nat.log2 (n - 1) + 1) = 2 * 2 ^ Nat.log2 (n - 1) := by rw [Nat.pow_succ, Nat.mul_comm]
  have h5 : 1 ≤ 2 ^ Nat.log2 (n - 1) := Nat.one_le_two_pow
  unfold halfN
  omega
theorem halfN_of (n j : Nat) (h1 : 2 ^ j < n) (h2 : n ≤ 2 * 2 ^ j) : 2 ^ j = halfN n := by
  unfold halfN
  congr 1
  have h3 : n - 1 ≠ 0 := by have : 1 ≤ 2 ^ j := Nat.one_le_two_pow; omega
  exact ((Nat.log2_eq_iff h3).2 ⟨by omega, by rw [Nat.pow_succ]; omega⟩).symm
theorem bitLenAux_log : ∀ (f x : Nat), x ≠ 0 → x < 2 ^ f → Lib.bitLenAux f x = Nat.log2 x + 1
  | 0, x, h0, h => by simp at h; omega
  | f + 1, x, h0, h => by
    rw [Lib.bitLenAux, if_neg h0, Nat.log2_def]
    by_cases h2 : 2 ≤ x
    · rw [if_pos h2, bitLenAux_log f (x / 2) (by omega) (by rw [Nat.pow_succ] at h; omega)]
      omega
    · rw [if_neg h2, show x / 2 = 0 by omega]
      cases f <;> simp [Lib.bitLenAux]
theorem bitLen_log (x : Nat) (h0 : x ≠ 0) (h1 : x < 2 ^ 64) : Lib.bitLen x = Nat.log2 x + 1 := bitLenAux_log 64 x h0 h1
set_option maxRecDepth 100000 in
set_option maxHeartbeats 800000 in
theorem middle_calls (f t : Nat) (w : World) (h : f + 2 ≤ t) (ht : t ≤ 1000) :
    Calls Tryz.prog 109 #[.int .i64 (f : Int), .int .i64 (t : Int)] w fun e w' => e = .returned (.int .i64 ((f + halfN (t - f) : Nat) : Int)) ∧ Step nowhere w w' := by
  have hh := halfN_in (t - f) (by omega)
  obtain ⟨L, hL⟩ : ∃ L, L = Nat.log2 (t - f - 1) := ⟨_, rfl⟩
  have hp : (2 : Nat) ^ L = halfN (t - f) := by rw [hL]; rfl
  have hLb : L ≤ 10 := by
    have h1 : 2 ^ L ≤ 2 ^ 10 := by rw [hp]; omega
    exact (Nat.pow_le_pow_iff_right (by decide)).1 h1
  have hbl : Lib.bitLen ((t : Int) - f - 1).toNat = L + 1 := by
    rw [show ((t : Int) - f - 1).toNat = t - f - 1 by omega, bitLen_log _ (by omega) (by omega), hL]
  have HBL := Lib.hid hbl
  have hp2 : (2 : Int) ^ L = (halfN (t - f) : Int) := by rw [← hp, Int.natCast_pow]; rfl
  have HP := Lib.hid hp2
  have HF : Hid (wrap64 ((f : Int) + wrap64 ((halfN (t - f) : Nat) : Int)) = ((f + halfN (t - f) : Nat) : Int)) := Lib.hid (by
    have : wrap64 ((halfN (t - f) : Nat) : Int) = ((halfN (t - f) : Nat) : Int) := by unfold wrap64; omega
    rw [this]; unfold wrap64; omega)
  have hx0 : 0 ≤ (t : Int) - f - 1 := by omega
  have hx1 : (t : Int) - f - 1 ≤ 18446744073709551615 := by omega
  clear hbl hp hp2 hL
  go_enter Tryz.func109, Tryz.ntmps109
  go_wp2_with (first | fail)
  refine (Tryz.bits_Len _ _ hx0 hx1).mono ?_
  rw [HBL.out]
  rintro e w1 ⟨rfl, rfl⟩
  go_wp2_with (first | fail)
  go_ret
  rw [HP.out, HF.out]
  exact ⟨rfl, stepN⟩
set_option maxRecDepth 100000 in
set_option maxHeartbeats 800000 in
theorem half_calls (n : Nat) (w : World) (h : 2 ≤ n) (hn : n ≤ 1000) :
    Calls Tryz.prog 29 #[.int .i64 (n : Int)] w fun e w' => e = .returned (.int .i64 ((halfN n : Nat) : Int)) ∧ Step nowhere w w' := by
  go_enter Tryz.func29, Tryz.ntmps29
  go_wp2_with (first | fail)
  go_loopw [3] (fun i wr => ∃ (k : Nat), (∃ j, k = 2 ^ j) ∧ 1 ≤ k ∧ k < n ∧ i = .int .i64 (k : Int) ∧ Step nowhere w wr) (fun i _ => n - (intOf i).toNat)
  case atStart => exact ⟨1, ⟨0, rfl⟩, by omega, by omega, rfl, stepN⟩
  case round =>
    obtain ⟨k, hj, h1, h2, rfl, _⟩ := hrel
    have HJ := Lib.hid hj
    clear hj
    by_cases hlt : 2 * (k : Int) < n
    · go_wp2_with (first | fail)
      refine ⟨⟨2 * k, ?_, by omega, by omega, by go_num, stepN⟩, by simp [intOf]; omega⟩
      obtain ⟨j, hj⟩ := HJ.out
      exact ⟨j + 1, by rw [hj, Nat.pow_succ, Nat.mul_comm]⟩
    · have hk : k = halfN n := by
        obtain ⟨j, hj⟩ := HJ.out
        rw [hj]
        exact halfN_of n j (by omega) (by omega)
      have HK := Lib.hid hk
      clear hk
      go_wp2_with (first | fail)
      go_ret
      rw [← HK.out]
      exact ⟨rfl, stepN⟩
end Go.Proofs.YtmnapacibpnodaaGreat
end
section
open Go Go.RowKit
namespace Go.Proofs.YtmnapacibpnodaaGreat
def nodeH (a b : H32) : H32 := ⟨nodeOf a.l b.l, nodeOf_len a.l b.l⟩
def rootF : Nat → List H32 → H32
  | 0, _ => zeroH
  | _ + 1, [] => zeroH
  | _ + 1, [a] => a
  | f + 1, a :: b :: l => nodeH (rootF f ((a :: b :: l).take (halfN (l.length + 2)))) (rootF f ((a :: b :: l).drop (halfN (l.length + 2))))
theorem rootF_two (f : Nat) (l : List H32) (h : 2 ≤ l.length) : rootF (f + 1) l = nodeH (rootF f (l.take (halfN l.length))) (rootF f (l.drop (halfN l.length))) := by
  rcases l with _ | ⟨a, _ | ⟨b, l⟩⟩
  · simp at h
  · simp at h
  · rfl
theorem rootF_fuel : ∀ (f g : Nat) (l : List H32), l.length ≤ f → l.length ≤ g → rootF f l = rootF g l
  | 0, g, l, h, _ => by
    obtain rfl : l = [] := List.eq_nil_of_length_eq_zero (by omega)
    cases g <;> rfl
  | f + 1, 0, l, _, h => by
    obtain rfl : l = [] := List.eq_nil_of_length_eq_zero (by omega)
    rfl
  | f + 1, g + 1, l, h1, h2 => by
    rcases l with _ | ⟨a, _ | ⟨b, l⟩⟩
    · rfl
    · rfl
    · have hl : 2 ≤ (a :: b :: l).length := by simp
      have hh := halfN_in _ hl
      rw [rootF_two f _ hl, rootF_two g _ hl]
      generalize (a :: b :: l) = l at *
      rw [rootF_fuel f g (l.take (halfN l.length)) (by rw [List.length_take]; omega) (by rw [List.length_take]; omega),
        rootF_fuel f g (l.drop (halfN l.length)) (by rw [List.length_drop]; omega) (by rw [List.length_drop]; omega)]
def rootL (l : List H32) : H32 := rootF l.length l
theorem rootL_two (l : List H32) (h : 2 ≤ l.length) : rootL l = nodeH (rootL (l.take (halfN l.length))) (rootL (l.drop (halfN l.length))) := by
  have hh := halfN_in _ h
  unfold rootL
  obtain ⟨f, hf⟩ : ∃ f, l.length = f + 1 := ⟨l.length - 1, by omega⟩
  conv => lhs; rw [hf, rootF_two f l h]
  rw [rootF_fuel f (l.take (halfN l.length)).length _ (by rw [List.length_take]; omega) (Nat.le_refl _), rootF_fuel f (l.drop (halfN l.length)).length _ (by rw [List.length_drop]; omega) (Nat.le_refl _)]
/-- the way up -/
def pathF : Nat → List H32 → Nat → List H32
  | 0, _, _ => []
  | f + 1, l, i => if l.length < 2 then [] else
      if i < halfN l.length then pathF f (l.take (halfN l.length)) i ++ [rootL (l.drop (halfN l.length))]
      else pathF f (l.drop (halfN l.length)) (i - halfN l.length) ++ [rootL (l.take (halfN l.length))]
theorem pathF_small (f : Nat) (l : List H32) (i : Nat) (h : l.length < 2) : pathF f l i = [] := by
  cases f with
  | zero => rfl
  | succ f => rw [pathF, if_pos h]
theorem pathF_fuel : ∀ (f g : Nat) (l : List H32) (i : Nat), l.length ≤ f → l.length ≤ g → pathF f l i = pathF g l i
  | 0, 0, l, i, _, _ => rfl
  | 0, g + 1, l, i, h, _ => by rw [pathF_small _ _ _ (by omega), pathF_small _ _ _ (by omega)]
  | f + 1, 0, l, i, _, h => by rw [pathF_small _ _ _ (by omega), pathF_small _ _ _ (by omega)]
  | f + 1, g + 1, l, i, h1, h2 => by
    rw [pathF, pathF]
    by_cases hl : l.length < 2
    · rw [if_pos hl, if_pos hl]
    · have hh := halfN_in l.length (by omega)
      rw [if_neg hl, if_neg hl, pathF_fuel f g (l.take (halfN l.length)) i (by rw [List.length_take]; omega) (by rw [List.length_take]; omega),
        pathF_fuel f g (l.drop (halfN l.length)) (i - halfN l.length) (by rw [List.length_drop]; omega) (by rw [List.length_drop]; omega)]
def pathL (l : List H32) (i : Nat) : List H32 := pathF l.length l i
theorem pathL_small (l : List H32) (i : Nat) (h : l.length < 2) : pathL l i = [] := by
  unfold pathL
  rcases hl : l.length with _ | n
  · rfl
  · rw [pathF, if_pos h]
theorem pathL_lo (l : List H32) (i : Nat) (h : 2 ≤ l.length) (hi : i < halfN l.length) : pathL l i = pathL (l.take (halfN l.length)) i ++ [rootL (l.drop (halfN l.length))] := by
  have hh := halfN_in _ h
  unfold pathL
  obtain ⟨f, hf⟩ : ∃ f, l.length = f + 1 := ⟨l.length - 1, by omega⟩
  conv => lhs; rw [hf, pathF, if_neg (by omega), if_pos hi]
  rw [pathF_fuel f (l.take (halfN l.length)).length _ _ (by rw [List.length_take]; omega) (Nat.le_refl _)]
theorem pathL_hi (l : List H32) (i : Nat) (h : 2 ≤ l.length) (hi : ¬ i < halfN l.length) : pathL l i = pathL (l.drop (halfN l.length)) (i - halfN l.length) ++ [rootL (l.take (halfN l.length))] := by
  have hh := halfN_in _ h
  unfold pathL
  obtain ⟨f, hf⟩ : ∃ f, l.length = f + 1 := ⟨l.length - 1, by omega⟩
  conv => lhs; rw [hf, pathF, if_neg (by omega), if_neg hi]
  rw [pathF_fuel f (l.drop (halfN l.length)).length _ _ (by rw [List.length_drop]; omega) (Nat.le_refl _)]
theorem pathF_len : ∀ (f : Nat) (l : List H32) (i : Nat), (pathF f l i).length ≤ f
  | 0, l, i => by simp [pathF]
  | f + 1, l, i => by
    rw [pathF]
    split
    · simp
    · split
      · rw [List.length_append, List.length_singleton]; have := pathF_len f (l.take (halfN l.length)) i; omega
      · rw [List.length_append, List.length_singleton]; have := pathF_len f (l.drop (halfN l.length)) (i - halfN l.length); omega
theorem pathL_len (l : List H32) (i : Nat) : (pathL l i).length ≤ l.length := pathF_len _ _ _
/-- up the way -/
def upL : H32 → Nat → List H32 → H32
  | h, _, [] => h
  | h, i, o :: l => upL (if i % 2 = 0 then nodeH h o else nodeH o h) (i / 2) l
theorem nodeC (a b : H32) (w : World) : Calls Tryz.prog 110 #[.agg (u8s a.l), .agg (u8s b.l)] w fun e w' => e = .returned (.agg (u8s (nodeH a b).l)) ∧ Step nowhere w w' :=
  (node_calls a.l b.l w a.len b.len).mono fun _ _ ⟨h1, h2⟩ => ⟨h1, ⟨h2.out⟩⟩
theorem rnodeC (a b : H32) (w : World) : Calls Tryz.prog 30 #[.agg (u8s a.l), .agg (u8s b.l)] w fun e w' => e = .returned (.agg (u8s (nodeH a b).l)) ∧ Step nowhere w w' :=
  (refNode_calls a.l b.l w a.len b.len).mono fun _ _ ⟨h1, h2⟩ => ⟨h1, ⟨h2.out⟩⟩
end Go.Proofs.YtmnapacibpnodaaGreat
end
section
open Go Go.RowKit
namespace Go.Proofs.YtmnapacibpnodaaGreat
def sub (l : List H32) (f t : Nat) : List H32 := (l.take t).drop f
theorem sub_len (l : List H32) (f t : Nat) (h : t ≤ l.length) : (sub l f t).length = t - f := by simp [sub]; omega
theorem sub_get (l : List H32) (f t j : Nat) : (sub l f t)[j]? = if f + j < t then l[f + j]? else none := by
  simp only [sub, List.getElem?_drop, List.getElem?_take]
theorem sub_take (l : List H32) (f m t : Nat) (h1 : f ≤ m) (h2 : m ≤ t) : (sub l f t).take (m - f) = sub l f m := by
  apply List.ext_getElem?
  intro j
  rw [List.getElem?_take, sub_get, sub_get]
  by_cases hj : f + j < m
  · rw [if_pos (by omega), if_pos (by omega), if_pos hj]
  · rw [if_neg (by omega), if_neg hj]
theorem sub_drop (l : List H32) (f m t : Nat) (h1 : f ≤ m) : (sub l f t).drop (m - f) = sub l m t := by
  apply List.ext_getElem?
  intro j
  rw [List.getElem?_drop, sub_get, sub_get, show f + (m - f + j) = m + j by omega]
theorem sub_one (l : List H32) (f : Nat) (h : f < l.length) : sub l f (f + 1) = [hget l f] := by
  apply List.ext_getElem?
  intro j
  rw [sub_get]
  rcases j with _ | j
  · rw [if_pos (by omega)]
    simp [hget, List.getD_eq_getElem?_getD, h]
  · rw [if_neg (by omega)]
    simp
theorem sub_all (l : List H32) : sub l 0 l.length = l := by simp [sub]
theorem root_split (l : List H32) (f t : Nat) (h : f + 2 ≤ t) (ht : t ≤ l.length) : rootL (sub l f t) = nodeH (rootL (sub l f (f + halfN (t - f)))) (rootL (sub l (f + halfN (t - f)) t)) := by
  have hh := halfN_in (t - f) (by omega)
  have hl := sub_len l f t ht
  rw [rootL_two _ (by omega), hl]
  have e1 := sub_take l f (f + halfN (t - f)) t (by omega) (by omega)
  have e2 := sub_drop l f (f + halfN (t - f)) t (by omega)
  rw [show f + halfN (t - f) - f = halfN (t - f) by omega] at e1 e2
  rw [e1, e2]
set_option maxRecDepth 100000 in
set_option maxHeartbeats 1600000 in
theorem root_calls : ∀ (d : Nat) (A : Option Addr) (n c : Nat) (l : List H32) (w : World) (_ : HR w A (cellsOf l)) (f t : Nat), t - f = d → f < t → t ≤ n → l.length = n → n ≤ 1000 →
    Calls Tryz.prog 85 #[.slice A n c, .int .i64 (f : Int), .int .i64 (t : Int)] w fun e w' => e = .returned (.agg (u8s (rootL (sub l f t)).l)) ∧ Step nowhere w w' := by
  intro d
  induction d using Nat.strongRecOn with
  | _ d ih =>
    intro A n c l w hr f t hd hft htn hl hn
    have HIH := Lib.hid ih
    clear ih
    by_cases h1 : t - f = 1
    · have ht1 : t = f + 1 := by omega
      have hs : rootL (sub l f t) = hget l f := by rw [ht1, sub_one l f (by omega)]; rfl
      have hb : ((t : Int) - f == 1) = true := by simp; omega
      have hfl : f < l.length := by omega
      have hfn : f < n := by omega
      have HS := Lib.hid hs
      clear ht1 hs h1 hd
      go_enter Tryz.func85, Tryz.ntmps85
      go_wp2_with (first | ((with_reducible apply (wpl_alloc (dst := some 6))); intro zo wzo _ _ _) | ((with_reducible apply wpl_storerow); (exact rfl); (exact rfl); infer_instance; infer_instance; (first | (with_reducible assumption) | (with_reducible exact H32.size _) | kernel_rfl); (first | (with_reducible assumption) | (with_reducible exact H32.size _) | kernel_rfl); (first | (with_reducible exact u8s_one _) | (with_reducible assumption) | kernel_rfl); intro ws _ _) | ((with_reducible apply wpl_indexH); (exact rfl); (exact rfl); infer_instance; infer_instance; (first | (with_reducible assumption) | omega); (first | (with_reducible assumption) | omega); (first | (with_reducible assumption) | omega)) | ((with_reducible apply (wpl_loadhash (t := 26))); (exact rfl); infer_instance; infer_instance; (first | (with_reducible assumption) | omega)))
      refine ret_row rfl rfl (n := 32) (H32.size _) rfl ⟨?_, stepN⟩
      rw [HS.out]
    · have hb : ((t : Int) - f == 1) = false := by simp; omega
      have hh := halfN_in (t - f) (by omega)
      have hs := root_split l f t (by omega) (by omega)
      obtain ⟨M, hM⟩ : ∃ M, M = f + halfN (t - f) := ⟨_, rfl⟩
      have hM1 : f < M ∧ M < t := by omega
      obtain ⟨hM1, hM2⟩ := hM1
      rw [← hM] at hs
      obtain ⟨R1, hR1⟩ : ∃ x, x = rootL (sub l f M) := ⟨_, rfl⟩
      obtain ⟨R2, hR2⟩ : ∃ x, x = rootL (sub l M t) := ⟨_, rfl⟩
      have HS := Lib.hid hs
      have HM := Lib.hid hM
      have HR1 := Lib.hid hR1
      have HR2 := Lib.hid hR2
      have hdm1 : M - f < d := by omega
      have hdm2 : t - M < d := by omega
      have hf2 : f + 2 ≤ t := by omega
      clear hs hM h1 hd hh hR1 hR2
      go_enter Tryz.func85, Tryz.ntmps85
      go_wp2_with (first | ((with_reducible apply (wpl_alloc (dst := some 6))); intro zo wzo _ _ _))
      refine (middle_calls f t _ hf2 (by omega)).mono ?_
      rw [← HM.out]
      rintro e w1 ⟨rfl, _⟩
      go_wp2_with fail
      refine (HIH.out (M - f) hdm1 A n c l _ inferInstance f M rfl hM1 (by omega) hl hn).mono ?_
      rw [← HR1.out]
      rintro e w2 ⟨rfl, _⟩
      go_wp2_with fail
      refine (HIH.out (t - M) hdm2 A n c l _ inferInstance M t rfl hM2 htn hl hn).mono ?_
      rw [← HR2.out]
      rintro e w3 ⟨rfl, _⟩
      go_wp2_with fail
      refine (nodeC R1 R2 _).mono ?_
      rintro e w4 ⟨rfl, _⟩
      go_wp2_with (first | ((with_reducible apply wpl_storerow); (exact rfl); (exact rfl); infer_instance; infer_instance; (first | (with_reducible assumption) | (with_reducible exact H32.size _) | kernel_rfl); (first | (with_reducible assumption) | (with_reducible exact H32.size _) | kernel_rfl); (first | (with_reducible exact u8s_one _) | (with_reducible assumption) | kernel_rfl); intro ws _ _))
      refine ret_row rfl rfl (n := 32) (H32.size _) rfl ⟨?_, stepN⟩
      rw [HS.out, HR1.out, HR2.out]
set_option maxRecDepth 100000 in
set_option maxHeartbeats 1600000 in
theorem rootC {A : Option Addr} {n c : Nat} {l : List H32} {w : World} [hr : HR w A (cellsOf l)] (hl : l.length = n) (hn : n ≤ 1000) :
    Calls Tryz.prog 54 #[.slice A n c] w fun e w' => e = .returned (.agg (u8s (rootL l).l)) ∧ Step nowhere w w' := by
  by_cases h0 : n = 0
  · have hz : l = [] := List.eq_nil_of_length_eq_zero (by omega)
    have hs : rootL l = zeroH := by rw [hz]; rfl
    have kb0 : ∀ w, (Instr.build 26 #[]).run Tryz.prog w = .ok (.agg (u8s zeroH.l)) w := fun _ => by kernel_rfl
    have hb : ((n : Int) == 0) = true := by simp; omega
    rw [hs]
    clear h0 hz
    go_enter Tryz.func54, Tryz.ntmps54
    go_wp2_with (first | ((with_reducible apply wpl_build); (exact kb0 _)) | ((with_reducible apply (wpl_alloc (dst := some 2))); intro zo wzo _ _ _) | ((with_reducible apply wpl_storerow); (exact rfl); (exact rfl); infer_instance; infer_instance; (first | (with_reducible assumption) | (with_reducible exact H32.size _) | kernel_rfl); (first | (with_reducible assumption) | (with_reducible exact H32.size _) | kernel_rfl); (first | (with_reducible exact u8s_one _) | (with_reducible assumption) | kernel_rfl); intro ws _ _))
    exact ret_row rfl rfl (n := 32) (H32.size zeroH) rfl ⟨rfl, stepN⟩
  · have hb : ((n : Int) == 0) = false := by simp; omega
    have HL := Lib.hid hl
    obtain ⟨R, hR⟩ : ∃ x, x = rootL (sub l 0 n) := ⟨_, rfl⟩
    have e : rootL l = R := by rw [hR, ← hl, sub_all]
    have HR' := Lib.hid hR
    rw [e]
    clear hR e
    go_enter Tryz.func54, Tryz.ntmps54
    go_wp2_with (first | ((with_reducible apply (wpl_alloc (dst := some 2))); intro zo wzo _ _ _))
    refine (root_calls n A n c l _ inferInstance 0 n (by omega) (by omega) (Nat.le_refl _) HL.out hn).mono ?_
    rw [← HR'.out]
    rintro e w2 ⟨rfl, _⟩
    go_wp2_with (first | ((with_reducible apply wpl_storerow); (exact rfl); (exact rfl); infer_instance; infer_instance; (first | (with_reducible assumption) | (with_reducible exact H32.size _) | kernel_rfl); (first | (with_reducible assumption) | (with_reducible exact H32.size _) | kernel_rfl); (first | (with_reducible exact u8s_one _) | (with_reducible assumption) | kernel_rfl); intro ws _ _))
    exact ret_row rfl rfl (n := 32) (H32.size _) rfl ⟨rfl, stepN⟩
end Go.Proofs.YtmnapacibpnodaaGreat
end
section
open Go Go.RowKit
namespace Go.Proofs.YtmnapacibpnodaaGreat
/-- the way up of any place -/
def pathA (l : List H32) (i : Int) : List H32 := if i < 0 ∨ (l.length : Int) ≤ i then [] else pathL l i.toNat
theorem pathA_len (l : List H32) (i : Int) : (pathA l i).length ≤ l.length := by
  unfold pathA
  split
  · simp
  · exact pathL_len _ _
end Go.Proofs.YtmnapacibpnodaaGreat
end
section
open Go Go.RowKit
namespace Go.Proofs.YtmnapacibpnodaaGreat
theorem upL_drop (h : H32) (i : Nat) (l : List H32) (k : Nat) (hk : k < l.length) : upL h i (l.drop k) = upL (if i % 2 = 0 then nodeH h (hget l k) else nodeH (hget l k) h) (i / 2) (l.drop (k + 1)) := by
  rw [List.drop_eq_getElem_cons hk, upL]
  congr 1
  simp [hget, List.getD_eq_getElem?_getD, hk]
theorem i64_and1 (a : Int) : bits .and .i64 a 1 = a % 2 := by
  show IntKind.i64.wrap ((BitVec.ofInt 64 a &&& BitVec.ofInt 64 1).toNat : Int) = _
  have h1 : (BitVec.ofInt 64 1).toNat = 2 ^ 1 - 1 := by decide
  rw [BitVec.toNat_and, h1, Nat.and_two_pow_sub_one_eq_mod, BitVec.toNat_ofInt, IntKind.wrap_i64]
  omega
set_option maxRecDepth 100000 in
set_option maxHeartbeats 1600000 in
theorem upC {A : Option Addr} {n c : Nat} {l : List H32} (leaf : H32) (i : Nat) {w : World} [hr : HR w A (cellsOf l)] (hl : l.length = n) (hn : n ≤ 1000) (hi : i ≤ 9223372036854775807) :
    Calls Tryz.prog 119 #[.agg (u8s leaf.l), .int .i64 (i : Int), .slice A n c] w fun e w' => e = .returned (.agg (u8s (upL leaf i l).l)) ∧ Step nowhere w w' := by
  obtain ⟨R, hR⟩ : ∃ R, R = upL leaf i l := ⟨_, rfl⟩
  have HL := Lib.hid hl
  have HR0 : Hid (upL leaf i (l.drop 0) = R) := Lib.hid (by rw [hR]; rfl)
  rw [← hR]
  clear hR
  go_enter Tryz.func119, Tryz.ntmps119
  go_wp2_with (first | ((with_reducible apply (wpl_box_agg (dst := some 3))); (exact rfl); intro zl wzl _ _ _) | ((with_reducible apply (wpl_alloc (dst := some 6))); intro zo wzo _ _ _))
  go_loopw [1, 11] (fun iv kv wr => ∃ (k j : Nat) (h : H32), k ≤ n ∧ kv = .int .i64 (k : Int) ∧ iv = .int .i64 (j : Int) ∧ j ≤ 9223372036854775807 ∧ Hid (upL h j (l.drop k) = R) ∧ Step nowhere w wr ∧ HB wr zo 26 (u8s zeroH.l) ∧ HB wr zl 26 (u8s h.l)) (fun _ kv _ => n - (intOf kv).toNat)
  case atStart => exact ⟨0, i, leaf, Nat.zero_le _, rfl, rfl, hi, HR0, stepN, inferInstance, inferInstance⟩
  case round =>
    obtain ⟨k, j, h, hk, rfl, rfl, hj, HU, _, _, _⟩ := hrel
    by_cases hlt : k < n
    · have hkl : k < l.length := by have := HL.out; omega
      have hltI : (k : Int) < n := by omega
      have hup := upL_drop h j l k hkl
      by_cases hp : j % 2 = 0
      · have hb : (bits BinOp.and IntKind.i64 (j : Int) 1 == 0) = true := by rw [i64_and1]; simp; omega
        rw [if_pos hp] at hup
        have HUP := Lib.hid hup
        clear hup hp
        go_wp2_with (first | ((with_reducible apply (wpl_alloc (dst := some 8))); intro zt wzt _ _ _) | ((with_reducible apply wpl_loadrow); (exact rfl); infer_instance; infer_instance; (first | (with_reducible assumption) | (with_reducible exact H32.size _) | kernel_rfl)) | ((with_reducible apply wpl_storerow); (exact rfl); (exact rfl); infer_instance; infer_instance; (first | (with_reducible assumption) | (with_reducible exact H32.size _) | kernel_rfl); (first | (with_reducible assumption) | (with_reducible exact H32.size _) | kernel_rfl); (first | (with_reducible exact u8s_one _) | (with_reducible assumption) | kernel_rfl); intro ws _ _) | ((with_reducible apply wpl_indexH); (exact rfl); (exact rfl); infer_instance; infer_instance; (first | (with_reducible assumption) | omega); (first | (with_reducible assumption) | omega); (first | (with_reducible assumption) | omega)) | ((with_reducible apply (wpl_loadhash (t := 26))); (exact rfl); infer_instance; infer_instance; (first | (with_reducible assumption) | omega)))
        refine (nodeC h (hget l k) _).mono ?_
        rintro e w4 ⟨rfl, _⟩
        go_wp2_with (first | ((with_reducible apply wpl_storerow); (exact rfl); (exact rfl); infer_instance; infer_instance; (first | (with_reducible assumption) | (with_reducible exact H32.size _) | kernel_rfl); (first | (with_reducible assumption) | (with_reducible exact H32.size _) | kernel_rfl); (first | (with_reducible exact u8s_one _) | (with_reducible assumption) | kernel_rfl); intro ws _ _))
        refine ⟨⟨k + 1, j / 2, nodeH h (hget l k), by omega, by go_num, ?_, by omega, Lib.hid (by rw [← HUP.out]; exact HU.out), stepN, inferInstance, inferInstance⟩, by simp [intOf]; omega⟩
        simp
      · have hb : (bits BinOp.and IntKind.i64 (j : Int) 1 == 0) = false := by rw [i64_and1]; simp; omega
        rw [if_neg hp] at hup
        have HUP := Lib.hid hup
        clear hup hp
        go_wp2_with (first | ((with_reducible apply (wpl_alloc (dst := some 8))); intro zt wzt _ _ _) | ((with_reducible apply wpl_loadrow); (exact rfl); infer_instance; infer_instance; (first | (with_reducible assumption) | (with_reducible exact H32.size _) | kernel_rfl)) | ((with_reducible apply wpl_storerow); (exact rfl); (exact rfl); infer_instance; infer_instance; (first | (with_reducible assumption) | (with_reducible exact H32.size _) | kernel_rfl); (first | (with_reducible assumption) | (with_reducible exact H32.size _) | kernel_rfl); (first | (with_reducible exact u8s_one _) | (with_reducible assumption) | kernel_rfl); intro ws _ _) | ((with_reducible apply wpl_indexH); (exact rfl); (exact rfl); infer_instance; infer_instance; (first | (with_reducible assumption) | omega); (first | (with_reducible assumption) | omega); (first | (with_reducible assumption) | omega)) | ((with_reducible apply (wpl_loadhash (t := 26))); (exact rfl); infer_instance; infer_instance; (first | (with_reducible assumption) | omega)))
        refine (nodeC (hget l k) h _).mono ?_
        rintro e w4 ⟨rfl, _⟩
        go_wp2_with (first | ((with_reducible apply wpl_storerow); (exact rfl); (exact rfl); infer_instance; infer_instance; (first | (with_reducible assumption) | (with_reducible exact H32.size _) | kernel_rfl); (first | (with_reducible assumption) | (with_reducible exact H32.size _) | kernel_rfl); (first | (with_reducible exact u8s_one _) | (with_reducible assumption) | kernel_rfl); intro ws _ _))
        refine ⟨⟨k + 1, j / 2, nodeH (hget l k) h, by omega, by go_num, ?_, by omega, Lib.hid (by rw [← HUP.out]; exact HU.out), stepN, inferInstance, inferInstance⟩, by simp [intOf]; omega⟩
        simp
    · have hge : n ≤ k := by omega
      have hR : h = R := by
        have := HU.out
        rw [List.drop_of_length_le (by have := HL.out; omega)] at this
        exact this
      have HRR := Lib.hid hR
      clear hR
      go_wp2_with (first | ((with_reducible apply wpl_loadrow); (exact rfl); infer_instance; infer_instance; (first | (with_reducible assumption) | (with_reducible exact H32.size _) | kernel_rfl)) | ((with_reducible apply wpl_storerow); (exact rfl); (exact rfl); infer_instance; infer_instance; (first | (with_reducible assumption) | (with_reducible exact H32.size _) | kernel_rfl); (first | (with_reducible assumption) | (with_reducible exact H32.size _) | kernel_rfl); (first | (with_reducible exact u8s_one _) | (with_reducible assumption) | kernel_rfl); intro ws _ _))
      refine ret_row rfl rfl (n := 32) (H32.size _) rfl ⟨?_, stepN⟩
      rw [HRR.out]
end Go.Proofs.YtmnapacibpnodaaGreat
end
