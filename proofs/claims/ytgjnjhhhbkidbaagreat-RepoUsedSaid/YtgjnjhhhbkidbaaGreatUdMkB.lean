/- MkB -/
import Derived.Test.YtgjnjhhhbkidbaaGreatUdMkA
open Go Go.RowKit
namespace Go.Proofs.YtgjnjhhhbkidbaaGreat
def sub (l : List H32) (f t : Nat) : List H32 := (l.take t).drop f
theorem sub_len (l : List H32) (f t : Nat) (h : t ≤ l.length) : (sub l f t).length = t - f := by simp [sub]; omega
theorem sub_get (l : List H32) (f t j : Nat) : (sub l f t)[j]? = if f + j < t then l[f + j]? else none := by
  simp only [sub, List.getElem?_drop, List.getElem?_take]
theorem sub_take (l : List H32) (f m t : Nat) (h1 : f ≤ m) (h2 : m ≤ t) : (sub l f t).take (m - f) = sub l f m := by
  apply List.ext_getElem?
  intro j
  rw [List.getElem?_take, sub_get, sub_get]
  by_cases hj : f + j < m
  · rw [if_pos (by omega), if_pos (by omega), if_pos hj]
  · rw [if_neg (by omega), if_neg hj]
theorem sub_drop (l : List H32) (f m t : Nat) (h1 : f ≤ m) : (sub l f t).drop (m - f) = sub l m t := by
  apply List.ext_getElem?
  intro j
  rw [List.getElem?_drop, sub_get, sub_get, show f + (m - f + j) = m + j by omega]
theorem sub_one (l : List H32) (f : Nat) (h : f < l.length) : sub l f (f + 1) = [hget l f] := by
  apply List.ext_getElem?
  intro j
  rw [sub_get]
  rcases j with _ | j
  · rw [if_pos (by omega)]
    simp [hget, List.getD_eq_getElem?_getD, h]
  · rw [if_neg (by omega)]
    simp
theorem sub_all (l : List H32) : sub l 0 l.length = l := by simp [sub]
theorem root_split (l : List H32) (f t : Nat) (h : f + 2 ≤ t) (ht : t ≤ l.length) : rootL (sub l f t) = nodeH (rootL (sub l f (f + halfN (t - f)))) (rootL (sub l (f + halfN (t - f)) t)) := by
  have hh := halfN_in (t - f) (by omega)
  have hl := sub_len l f t ht
  rw [rootL_two _ (by omega), hl]
  have e1 := sub_take l f (f + halfN (t - f)) t (by omega) (by omega)
  have e2 := sub_drop l f (f + halfN (t - f)) t (by omega)
  rw [show f + halfN (t - f) - f = halfN (t - f) by omega] at e1 e2
  rw [e1, e2]
set_option maxRecDepth 100000 in
set_option maxHeartbeats 1600000 in
theorem root_calls : ∀ (d : Nat) (A : Option Addr) (n c : Nat) (l : List H32) (w : World) (_ : HR w A (cellsOf l)) (f t : Nat), t - f = d → f < t → t ≤ n → l.length = n → n ≤ 1000 →
    Calls Tryz.prog 99 #[.slice A n c, .int .i64 (f : Int), .int .i64 (t : Int)] w fun e w' => e = .returned (.agg (u8s (rootL (sub l f t)).l)) ∧ Step nowhere w w' := by
  intro d
  induction d using Nat.strongRecOn with
  | _ d ih =>
    intro A n c l w hr f t hd hft htn hl hn
    have HIH := Lib.hid ih
    clear ih
    by_cases h1 : t - f = 1
    · have ht1 : t = f + 1 := by omega
      have hs : rootL (sub l f t) = hget l f := by rw [ht1, sub_one l f (by omega)]; rfl
      have hb : ((t : Int) - f == 1) = true := by simp; omega
      have hfl : f < l.length := by omega
      have hfn : f < n := by omega
      have HS := Lib.hid hs
      clear ht1 hs h1 hd
      go_enter Tryz.func99, Tryz.ntmps99
      go_wp2_with (first | ((with_reducible apply (wpl_alloc (dst := some 6))); intro zo wzo _ _ _) | ((with_reducible apply wpl_storerow); (exact rfl); (exact rfl); infer_instance; infer_instance; (first | (with_reducible assumption) | (with_reducible exact H32.size _) | kernel_rfl); (first | (with_reducible assumption) | (with_reducible exact H32.size _) | kernel_rfl); (first | (with_reducible exact u8s_one _) | (with_reducible assumption) | kernel_rfl); intro ws _ _) | ((with_reducible apply wpl_indexH); (exact rfl); (exact rfl); infer_instance; infer_instance; (first | (with_reducible assumption) | omega); (first | (with_reducible assumption) | omega); (first | (with_reducible assumption) | omega)) | ((with_reducible apply (wpl_loadhash (t := 23))); (exact rfl); infer_instance; infer_instance; (first | (with_reducible assumption) | omega)))
      refine ret_row rfl rfl (n := 32) (H32.size _) rfl ⟨?_, stepN⟩
      rw [HS.out]
    · have hb : ((t : Int) - f == 1) = false := by simp; omega
      have hh := halfN_in (t - f) (by omega)
      have hs := root_split l f t (by omega) (by omega)
      obtain ⟨M, hM⟩ : ∃ M, M = f + halfN (t - f) := ⟨_, rfl⟩
      have hM1 : f < M ∧ M < t := by omega
      obtain ⟨hM1, hM2⟩ := hM1
      rw [← hM] at hs
      obtain ⟨R1, hR1⟩ : ∃ x, x = rootL (sub l f M) := ⟨_, rfl⟩
      obtain ⟨R2, hR2⟩ : ∃ x, x = rootL (sub l M t) := ⟨_, rfl⟩
      have HS := Lib.hid hs
      have HM := Lib.hid hM
      have HR1 := Lib.hid hR1
      have HR2 := Lib.hid hR2
      have hdm1 : M - f < d := by omega
      have hdm2 : t - M < d := by omega
      have hf2 : f + 2 ≤ t := by omega
      clear hs hM h1 hd hh hR1 hR2
      go_enter Tryz.func99, Tryz.ntmps99
      go_wp2_with (first | ((with_reducible apply (wpl_alloc (dst := some 6))); intro zo wzo _ _ _))
      refine (middle_calls f t _ hf2 (by omega)).mono ?_
      rw [← HM.out]
      rintro e w1 ⟨rfl, _⟩
      go_wp2_with fail
      refine (HIH.out (M - f) hdm1 A n c l _ inferInstance f M rfl hM1 (by omega) hl hn).mono ?_
      rw [← HR1.out]
      rintro e w2 ⟨rfl, _⟩
      go_wp2_with fail
      refine (HIH.out (t - M) hdm2 A n c l _ inferInstance M t rfl hM2 htn hl hn).mono ?_
      rw [← HR2.out]
      rintro e w3 ⟨rfl, _⟩
      go_wp2_with fail
      refine (nodeC R1 R2 _).mono ?_
      rintro e w4 ⟨rfl, _⟩
      go_wp2_with (first | ((with_reducible apply wpl_storerow); (exact rfl); (exact rfl); infer_instance; infer_instance; (first | (with_reducible assumption) | (with_reducible exact H32.size _) | kernel_rfl); (first | (with_reducible assumption) | (with_reducible exact H32.size _) | kernel_rfl); (first | (with_reducible exact u8s_one _) | (with_reducible assumption) | kernel_rfl); intro ws _ _))
      refine ret_row rfl rfl (n := 32) (H32.size _) rfl ⟨?_, stepN⟩
      rw [HS.out, HR1.out, HR2.out]
set_option maxRecDepth 100000 in
set_option maxHeartbeats 1600000 in
theorem rootC {A : Option Addr} {n c : Nat} {l : List H32} {w : World} [hr : HR w A (cellsOf l)] (hl : l.length = n) (hn : n ≤ 1000) :
    Calls Tryz.prog 56 #[.slice A n c] w fun e w' => e = .returned (.agg (u8s (rootL l).l)) ∧ Step nowhere w w' := by
  by_cases h0 : n = 0
  · have hz : l = [] := List.eq_nil_of_length_eq_zero (by omega)
    have hs : rootL l = zeroH := by rw [hz]; rfl
    have kb0 : ∀ w, (Instr.build 23 #[]).run Tryz.prog w = .ok (.agg (u8s zeroH.l)) w := fun _ => by kernel_rfl
    have hb : ((n : Int) == 0) = true := by simp; omega
    rw [hs]
    clear h0 hz
    go_enter Tryz.func56, Tryz.ntmps56
    go_wp2_with (first | ((with_reducible apply wpl_build); (exact kb0 _)) | ((with_reducible apply (wpl_alloc (dst := some 2))); intro zo wzo _ _ _) | ((with_reducible apply wpl_storerow); (exact rfl); (exact rfl); infer_instance; infer_instance; (first | (with_reducible assumption) | (with_reducible exact H32.size _) | kernel_rfl); (first | (with_reducible assumption) | (with_reducible exact H32.size _) | kernel_rfl); (first | (with_reducible exact u8s_one _) | (with_reducible assumption) | kernel_rfl); intro ws _ _))
    exact ret_row rfl rfl (n := 32) (H32.size zeroH) rfl ⟨rfl, stepN⟩
  · have hb : ((n : Int) == 0) = false := by simp; omega
    have HL := Lib.hid hl
    obtain ⟨R, hR⟩ : ∃ x, x = rootL (sub l 0 n) := ⟨_, rfl⟩
    have e : rootL l = R := by rw [hR, ← hl, sub_all]
    have HR' := Lib.hid hR
    rw [e]
    clear hR e
    go_enter Tryz.func56, Tryz.ntmps56
    go_wp2_with (first | ((with_reducible apply (wpl_alloc (dst := some 2))); intro zo wzo _ _ _))
    refine (root_calls n A n c l _ inferInstance 0 n (by omega) (by omega) (Nat.le_refl _) HL.out hn).mono ?_
    rw [← HR'.out]
    rintro e w2 ⟨rfl, _⟩
    go_wp2_with (first | ((with_reducible apply wpl_storerow); (exact rfl); (exact rfl); infer_instance; infer_instance; (first | (with_reducible assumption) | (with_reducible exact H32.size _) | kernel_rfl); (first | (with_reducible assumption) | (with_reducible exact H32.size _) | kernel_rfl); (first | (with_reducible exact u8s_one _) | (with_reducible assumption) | kernel_rfl); intro ws _ _))
    exact ret_row rfl rfl (n := 32) (H32.size _) rfl ⟨rfl, stepN⟩
end Go.Proofs.YtgjnjhhhbkidbaaGreat
