/- UnD, RoM -/
import Derived.Test.YthcleccofccbdaaTaUnC
import Derived.Test.YthcleccofccbdaaTaRoR
section
open Go Go.RowKit
namespace Go.Proofs.Ythcleccofccbdaa
def flatH (l : List H32) : List UInt8 := l.flatMap (·.l)
theorem flatH_app (a b : List H32) : flatH (a ++ b) = flatH a ++ flatH b := by simp [flatH]
theorem flatH_take (l : List H32) (k : Nat) (h : k < l.length) : flatH (l.take (k + 1)) = flatH (l.take k) ++ (hget l k).l := by
  have e : l.take (k + 1) = l.take k ++ [hget l k] := by
    rw [List.take_add_one, List.getElem?_eq_getElem h]
    simp [hget, List.getD_eq_getElem?_getD, h]
  rw [e, flatH_app]
  simp [flatH]
def keyB (l : List H32) (need : Int) : List UInt8 := encAll [(l.length : Int)] ++ flatH l ++ encAll [need]
set_option maxRecDepth 100000 in
set_option maxHeartbeats 1600000 in
theorem rKeys_calls {A : Option Addr} {n c : Nat} {l : List H32} (need : Int) {w : World} [hr : HR w A (cellsOf l)] (hl : l.length = n) (hmax : n ≤ 1000) :
    Calls Try.prog 49 #[.agg #[.slice A n c, .int .i64 need]] w fun e w' => ∃ A' n' c', e = .returned (.slice A' n' c') ∧ Step nowhere w w' ∧ HO w' 5 1 A' n' c' (bs (keyB l need)) ∧ NewA w A' ∧ n' ≤ 18 + 32 * n := by
  have HLL := Lib.hid hl
  have HE1 : Hid ((encAll [(n : Int)]).length ≤ 9) := Lib.hid (encAll_len [(n : Int)])
  have HE2 : Hid ((encAll [need]).length ≤ 9) := Lib.hid (encAll_len [need])
  have HKB : Hid (keyB l need = encAll [(n : Int)] ++ flatH l ++ encAll [need]) := Lib.hid (by rw [keyB, hl])
  clear hl
  go_enter Try.func49, Try.ntmps49
  go_wp2_with (first | ((with_reducible apply (wpl_box_agg (dst := some 1))); (exact rfl); intro zs wzs _ _ _) | ((with_reducible apply (wpl_box_int (dst := some 1))); (exact rfl); intro zs wzs _ _ _) | ((with_reducible apply (wpl_box_slice (dst := some 1))); (exact rfl); intro zs wzs _ _ _) | ((with_reducible apply (wpl_box_str (dst := some 1))); (exact rfl); intro zs wzs _ _ _) | ((with_reducible apply (wpl_box_bool (dst := some 1))); (exact rfl); intro zs wzs _ _ _) | ((with_reducible apply (wpl_box_ptr (dst := some 1))); (exact rfl); intro zs wzs _ _ _) | ((with_reducible apply wpl_box_agg); (exact rfl); intro z wz _ _ _) | ((with_reducible apply wpl_box_int); (exact rfl); intro z wz _ _ _) | ((with_reducible apply wpl_box_slice); (exact rfl); intro z wz _ _ _) | ((with_reducible apply wpl_box_str); (exact rfl); intro z wz _ _ _) | ((with_reducible apply wpl_box_bool); (exact rfl); intro z wz _ _ _) | ((with_reducible apply wpl_box_ptr); (exact rfl); intro z wz _ _ _) | ((with_reducible apply wpl_loadrow); (exact rfl); infer_instance; infer_instance; (first | (with_reducible assumption) | (with_reducible exact H32.size _) | kernel_rfl)) | ((with_reducible apply wpl_loadcellN); (exact rfl); infer_instance; (exact rfl)))
  have hs5 : HB wzs zs 24 #[.slice A n c, .int .i64 need] := inferInstance
  refine (refNum_calls n _).mono ?_
  rintro e w6 ⟨A6, n6, c6, rfl, hF⟩
  have st6 : Step nowhere wzs w6 := ⟨hF.out.chg⟩
  have n5 : Nw w wzs := inferInstance
  have hA6 : NewA w A6 := ⟨fun ad e => Nat.le_trans n5.out.size (hF.out.new ad e)⟩
  have ho6 : HO w6 5 1 A6 n6 c6 (bs (encAll [(n : Int)] ++ flatH (l.take 0))) := by
    have h1 := fresh_hoW hF.out
    rw [← encAll_one] at h1
    simpa [flatH] using h1
  have hn6 : n6 ≤ 9 := by
    have h1 := hF.out.len
    rw [← encAll_one] at h1
    have := HE1.out
    omega
  have hs6 : HB w6 zs 24 #[.slice A n c, .int .i64 need] := inferInstance
  have os : OffB (rowOf A6) zs := ⟨fun ⟨ad, e, hk⟩ => by
    have h1 := hF.out.new ad e
    have h2 := hs5.out.lt
    omega⟩
  clear hF
  go_wp2_with (first | ((with_reducible apply wpl_box_agg); (exact rfl); intro z wz _ _ _) | ((with_reducible apply wpl_box_int); (exact rfl); intro z wz _ _ _) | ((with_reducible apply wpl_box_slice); (exact rfl); intro z wz _ _ _) | ((with_reducible apply wpl_box_str); (exact rfl); intro z wz _ _ _) | ((with_reducible apply wpl_box_bool); (exact rfl); intro z wz _ _ _) | ((with_reducible apply wpl_box_ptr); (exact rfl); intro z wz _ _ _) | ((with_reducible apply wpl_loadrow); (exact rfl); infer_instance; infer_instance; (first | (with_reducible assumption) | (with_reducible exact H32.size _) | kernel_rfl)) | ((with_reducible apply wpl_loadcellN); (exact rfl); infer_instance; (exact rfl)))
  go_loopw [3, 4] (fun bv iv wr => ∃ (k : Nat) (A1 : Option Addr) (n1 c1 : Nat), k ≤ n ∧ iv = .int .i64 (k : Int) ∧ bv = .slice A1 n1 c1 ∧ Step nowhere w wr ∧ HO wr 5 1 A1 n1 c1 (bs (encAll [(n : Int)] ++ flatH (l.take k))) ∧ NewA w A1 ∧ OffB (rowOf A1) zs ∧ n1 ≤ 9 + 32 * k ∧ HB wr zs 24 #[.slice A n c, .int .i64 need]) (fun _ iv _ => n - (intOf iv).toNat)
  case atStart => exact ⟨0, A6, n6, c6, Nat.zero_le _, rfl, rfl, stepN, ho6, hA6, os, by omega, hs6⟩
  case round =>
    clear ho6 hA6 os hn6 hs6 st6 n5 hs5
    obtain ⟨k, A1, n1, c1, hk, rfl, rfl, _, hO, hA1, os, hn1, hs⟩ := hrel
    have st : Step nowhere w wr := inferInstance
    have n1' : Nw w wr := ⟨st.chg⟩
    by_cases hlt : k < n
    · have hltI : (k : Int) < n := by omega
      have hln := HLL.out
      have hkl : k < l.length := by omega
      have hF : Fact' (k < l.length) := ⟨hkl⟩
      have htk := flatH_take l k hkl
      have HTK : Hid (encAll [(n : Int)] ++ flatH (l.take k) ++ (hget l k).l = encAll [(n : Int)] ++ flatH (l.take (k + 1))) := Lib.hid (by rw [htk, List.append_assoc])
      clear htk
      go_wp2_with (first | ((with_reducible apply wpl_box_agg); (exact rfl); intro z wz _ _ _) | ((with_reducible apply wpl_box_int); (exact rfl); intro z wz _ _ _) | ((with_reducible apply wpl_box_slice); (exact rfl); intro z wz _ _ _) | ((with_reducible apply wpl_box_str); (exact rfl); intro z wz _ _ _) | ((with_reducible apply wpl_box_bool); (exact rfl); intro z wz _ _ _) | ((with_reducible apply wpl_box_ptr); (exact rfl); intro z wz _ _ _) | ((with_reducible apply wpl_loadrow); (exact rfl); infer_instance; infer_instance; (first | (with_reducible assumption) | (with_reducible exact H32.size _) | kernel_rfl)) | ((with_reducible apply wpl_loadcellN); (exact rfl); infer_instance; (exact rfl)) | ((with_reducible apply wpl_sl_lh); (exact rfl); (exact rfl); (exact rfl); infer_instance; (first | (with_reducible assumption) | omega); (first | (with_reducible assumption) | omega)) | ((with_reducible apply wpl_sl_h); (exact rfl); (exact rfl); infer_instance; (first | (with_reducible assumption) | omega)) | ((with_reducible apply wpl_sl_l); (exact rfl); (exact rfl); infer_instance; (first | (with_reducible assumption) | omega)) | ((with_reducible apply wpl_indexH); (exact rfl); (exact rfl); infer_instance; infer_instance; (first | (with_reducible assumption) | omega); (first | (with_reducible assumption) | omega); (first | (with_reducible assumption) | omega)) | ((with_reducible apply wpl_indexH'); (exact rfl); (exact rfl); infer_instance; infer_instance; (first | (with_reducible assumption) | omega); (first | (with_reducible assumption) | omega); (first | (with_reducible assumption) | omega)) | ((with_reducible apply (wpl_loadhash (t := 78))); (exact rfl); infer_instance; infer_instance; (first | (with_reducible assumption) | omega)) | ((with_reducible apply wpl_sliceH); (exact rfl); (exact Try.underlying78); (kernel_rfl); infer_instance; (first | (with_reducible assumption) | omega)) | ((with_reducible apply wpl_appendB); (exact rfl); (exact rfl); infer_instance; (first | exact inferInstance | exact ⟨Own.nil _ _ _⟩); infer_instance; (first | (with_reducible assumption) | (with_reducible exact H32.len _) | (focus (simp; done)) | omega); (first | (with_reducible assumption) | omega); intro A' c' wa _ _ _ hcap) | ((with_reducible apply wpl_appendH); (exact rfl); (exact rfl); infer_instance; (first | exact inferInstance | exact ⟨Own.nil _ _ _⟩); infer_instance; (first | (with_reducible assumption) | omega); intro A' c' wa _ _ _ hcap) | ((with_reducible apply (wpl_appendR (α := H32))); (exact rfl); (exact rfl); infer_instance; (first | exact inferInstance | exact ⟨Own.nil _ _ _⟩); infer_instance; (exact rfl); (first | (with_reducible assumption) | (with_reducible exact H32.len _) | (focus (simp; done)) | omega); (first | (with_reducible assumption) | omega); (decide); (decide); intro A' c' wa _ _ _ hcap) | ((with_reducible apply (wpl_loadbyteH (t := 5))); (exact rfl); infer_instance; (first | (with_reducible assumption) | omega); (first | (with_reducible assumption) | omega)) | ((with_reducible apply (wpl_loadint (t := 3))); (exact rfl); infer_instance; infer_instance; (first | (with_reducible assumption) | omega)) | ((with_reducible apply (wpl_loadbyte (t := 5))); (exact rfl); infer_instance; infer_instance; (first | (with_reducible assumption) | omega)))
      refine ⟨⟨k + 1, A', n1 + 32, c', by omega, by go_num, rfl, stepN, ?_, inferInstance, inferInstance, by omega, inferInstance⟩, by simp [intOf]; omega⟩
      rw [← HTK.out]
      infer_instance
    · have hltI : ¬ (k : Int) < n := by omega
      have hkn : k = n := by omega
      have hfin : l.take k = l := List.take_of_length_le (by have := HLL.out; omega)
      rw [hfin] at hO
      clear hkn hfin
      go_wp2_with (first | ((with_reducible apply wpl_box_agg); (exact rfl); intro z wz _ _ _) | ((with_reducible apply wpl_box_int); (exact rfl); intro z wz _ _ _) | ((with_reducible apply wpl_box_slice); (exact rfl); intro z wz _ _ _) | ((with_reducible apply wpl_box_str); (exact rfl); intro z wz _ _ _) | ((with_reducible apply wpl_box_bool); (exact rfl); intro z wz _ _ _) | ((with_reducible apply wpl_box_ptr); (exact rfl); intro z wz _ _ _) | ((with_reducible apply wpl_loadrow); (exact rfl); infer_instance; infer_instance; (first | (with_reducible assumption) | (with_reducible exact H32.size _) | kernel_rfl)) | ((with_reducible apply wpl_loadcellN); (exact rfl); infer_instance; (exact rfl)))
      refine (refNum_calls need _).mono ?_
      rintro e w7 ⟨A7, n7, c7, rfl, hF⟩
      have st7 : Step nowhere _ w7 := ⟨hF.out.chg⟩
      have hr7 : HR w7 A7 (bs (encAll [need])) := ⟨by rw [encAll_one]; exact hF.out.own.rd⟩
      have hl7 : (encAll [need]).length = n7 := by rw [encAll_one]; exact hF.out.len.symm
      have hn7 : n7 ≤ 9 := by
        have := HE2.out
        omega
      clear hF
      go_wp2_with (first | ((with_reducible apply wpl_box_agg); (exact rfl); intro z wz _ _ _) | ((with_reducible apply wpl_box_int); (exact rfl); intro z wz _ _ _) | ((with_reducible apply wpl_box_slice); (exact rfl); intro z wz _ _ _) | ((with_reducible apply wpl_box_str); (exact rfl); intro z wz _ _ _) | ((with_reducible apply wpl_box_bool); (exact rfl); intro z wz _ _ _) | ((with_reducible apply wpl_box_ptr); (exact rfl); intro z wz _ _ _) | ((with_reducible apply wpl_loadrow); (exact rfl); infer_instance; infer_instance; (first | (with_reducible assumption) | (with_reducible exact H32.size _) | kernel_rfl)) | ((with_reducible apply wpl_loadcellN); (exact rfl); infer_instance; (exact rfl)) | ((with_reducible apply wpl_sl_lh); (exact rfl); (exact rfl); (exact rfl); infer_instance; (first | (with_reducible assumption) | omega); (first | (with_reducible assumption) | omega)) | ((with_reducible apply wpl_sl_h); (exact rfl); (exact rfl); infer_instance; (first | (with_reducible assumption) | omega)) | ((with_reducible apply wpl_sl_l); (exact rfl); (exact rfl); infer_instance; (first | (with_reducible assumption) | omega)) | ((with_reducible apply wpl_indexH); (exact rfl); (exact rfl); infer_instance; infer_instance; (first | (with_reducible assumption) | omega); (first | (with_reducible assumption) | omega); (first | (with_reducible assumption) | omega)) | ((with_reducible apply wpl_indexH'); (exact rfl); (exact rfl); infer_instance; infer_instance; (first | (with_reducible assumption) | omega); (first | (with_reducible assumption) | omega); (first | (with_reducible assumption) | omega)) | ((with_reducible apply (wpl_loadhash (t := 78))); (exact rfl); infer_instance; infer_instance; (first | (with_reducible assumption) | omega)) | ((with_reducible apply wpl_sliceH); (exact rfl); (exact Try.underlying78); (kernel_rfl); infer_instance; (first | (with_reducible assumption) | omega)) | ((with_reducible apply wpl_appendB); (exact rfl); (exact rfl); infer_instance; (first | exact inferInstance | exact ⟨Own.nil _ _ _⟩); infer_instance; (first | (with_reducible assumption) | (with_reducible exact H32.len _) | (focus (simp; done)) | omega); (first | (with_reducible assumption) | omega); intro A' c' wa _ _ _ hcap) | ((with_reducible apply wpl_appendH); (exact rfl); (exact rfl); infer_instance; (first | exact inferInstance | exact ⟨Own.nil _ _ _⟩); infer_instance; (first | (with_reducible assumption) | omega); intro A' c' wa _ _ _ hcap) | ((with_reducible apply (wpl_appendR (α := H32))); (exact rfl); (exact rfl); infer_instance; (first | exact inferInstance | exact ⟨Own.nil _ _ _⟩); infer_instance; (exact rfl); (first | (with_reducible assumption) | (with_reducible exact H32.len _) | (focus (simp; done)) | omega); (first | (with_reducible assumption) | omega); (decide); (decide); intro A' c' wa _ _ _ hcap) | ((with_reducible apply (wpl_loadbyteH (t := 5))); (exact rfl); infer_instance; (first | (with_reducible assumption) | omega); (first | (with_reducible assumption) | omega)) | ((with_reducible apply (wpl_loadint (t := 3))); (exact rfl); infer_instance; infer_instance; (first | (with_reducible assumption) | omega)) | ((with_reducible apply (wpl_loadbyte (t := 5))); (exact rfl); infer_instance; infer_instance; (first | (with_reducible assumption) | omega)))
      go_ret
      refine ⟨A', n1 + n7, c', rfl, stepN, ?_, inferInstance, by omega⟩
      rw [HKB.out]
      infer_instance
end Go.Proofs.Ythcleccofccbdaa
end
section
open Go Go.RowKit
namespace Go.Proofs.Ythcleccofccbdaa
/-- so many digests taken -/
def hS (s : RS) : Nat → RS
  | 0 => s
  | k + 1 => ((hS s k).raw 32).2
def hN (s : RS) : Nat → List H32
  | 0 => []
  | k + 1 => hN s k ++ [(hS s k).hsh]
theorem hN_len (s : RS) : ∀ k, (hN s k).length = k
  | 0 => rfl
  | k + 1 => by rw [hN, List.length_append, hN_len s k]; rfl
theorem hS_le (s : RS) : ∀ k, (hS s k).b.length ≤ s.b.length
  | 0 => Nat.le_refl _
  | k + 1 => Nat.le_trans ((hS s k).raw_l 32) (hS_le s k)
theorem flatH_snoc (l : List H32) (h : H32) : flatH (l ++ [h]) = flatH l ++ h.l := by simp [flatH]
theorem hS_back (s : RS) : ∀ k, (hS s k).e = false → s.e = false ∧ s.b = flatH (hN s k) ++ (hS s k).b
  | 0, h => ⟨h, rfl⟩
  | k + 1, h => by
    obtain ⟨h1, h2⟩ := hsh_back (s := hS s k) h
    obtain ⟨h3, h4⟩ := hS_back s k h1
    refine ⟨h3, ?_⟩
    rw [hN, flatH_snoc, List.append_assoc]
    show s.b = flatH (hN s k) ++ ((hS s k).hsh.l ++ ((hS s k).raw 32).2.b)
    rw [← h2]
    exact h4
theorem hS_mono (s : RS) (j : Nat) : ∀ k, (hS s k).e = false → j ≤ k → (hS s j).e = false
  | 0, h, hj => by
    obtain rfl : j = 0 := by omega
    exact h
  | k + 1, h, hj => by
    by_cases e : j = k + 1
    · subst e; exact h
    · exact hS_mono s j k (hsh_back (s := hS s k) h).1 (by omega)
/-- keys taken: the program's way -/
def kL (s : RS) : List H32 := if 4 < s.num.1 then [] else hN s.num.2 s.num.1
def kM (s : RS) : RS := if 4 < s.num.1 then RS.bad else hS s.num.2 s.num.1
def kD (s : RS) : Nat := (kM s).num.1
def kR (s : RS) : RS := (kM s).num.2
theorem kM_le (s : RS) : (kM s).b.length ≤ s.b.length := by
  unfold kM
  split
  · exact Nat.zero_le _
  · exact Nat.le_trans (hS_le _ _) (RS.num_le s)
theorem kR_le (s : RS) : (kR s).b.length ≤ s.b.length := Nat.le_trans (RS.num_le _) (kM_le s)
/-- the reference's way -/
def GotQ (s : RS) (l : List H32) (need : Nat) (s' : RS) : Prop := ∃ j, j ≤ 5 ∧ j ≤ s.num.1 ∧ (j = s.num.1 ∨ j = 5 ∨ (hS s.num.2 j).e = true) ∧ l = hN s.num.2 j ∧ need = (hS s.num.2 j).num.1 ∧ s' = (hS s.num.2 j).num.2
theorem GotQ.same {s s' : RS} {l : List H32} {need : Nat} (h : GotQ s l need s') (he : s'.e = false) (hl : l.length ≤ 4) : l = kL s ∧ need = kD s ∧ s' = kR s := by
  obtain ⟨j, h5, hn, hj, rfl, rfl, rfl⟩ := h
  have h1 := (num_back he).1
  rw [hN_len] at hl
  have e : j = s.num.1 := by
    rcases hj with h | h | h
    · exact h
    · omega
    · rw [h1] at h; cases h
  have h4 : ¬ 4 < s.num.1 := by omega
  rw [kL, kD, kR, kM, if_neg h4, if_neg h4, ← e]
  exact ⟨rfl, rfl, rfl⟩
theorem kM_e {s : RS} (h : (kR s).e = false) : (kM s).e = false := (num_back h).1
theorem kM_n {s : RS} (h : (kM s).e = false) : ¬ 4 < s.num.1 := fun h4 => by
  rw [kM, if_pos h4] at h
  cases h
theorem GotQ.prog {s s' : RS} {l : List H32} {need : Nat} (h : GotQ s l need s') (he : (kR s).e = false) : l = kL s ∧ need = kD s ∧ s' = kR s := by
  obtain ⟨j, h5, hn, hj, rfl, rfl, rfl⟩ := h
  have h1 := kM_e he
  have h4 := kM_n h1
  rw [kM, if_neg h4] at h1
  have e : j = s.num.1 := by
    rcases hj with h | h | h
    · exact h
    · omega
    · rw [hS_mono _ _ _ h1 hn] at h; cases h
  rw [kL, kD, kR, kM, if_neg h4, if_neg h4, ← e]
  exact ⟨rfl, rfl, rfl⟩
theorem key_back {s : RS} (he : (kR s).e = false) : s.e = false ∧ s.b = keyB (kL s) (kD s) ++ (kR s).b := by
  have h1 := kM_e he
  have h4 := kM_n h1
  obtain ⟨a1, a2, a3⟩ := num_back (s := kM s) he
  have e1 : kM s = hS s.num.2 s.num.1 := by rw [kM, if_neg h4]
  rw [e1] at h1
  obtain ⟨b1, b2⟩ := hS_back s.num.2 s.num.1 h1
  obtain ⟨c1, c2, c3⟩ := num_back (s := s) b1
  refine ⟨c1, ?_⟩
  have e2 : kL s = hN s.num.2 s.num.1 := by rw [kL, if_neg h4]
  have e3 : encAll [(kD s : Int)] = enc (kD s) := encN a3
  have e4 : encAll [((kL s).length : Int)] = enc s.num.1 := by rw [e2, hN_len]; exact encN c3
  rw [keyB, e4, e3, c2, List.append_assoc, List.append_assoc]
  congr 1
  rw [b2, ← e2, ← e1]
  congr 1
/-- so many keys taken -/
def kAt (s : RS) : Nat → RS
  | 0 => s
  | k + 1 => kR (kAt s k)
def kK (s : RS) : Nat → List (List H32 × Int)
  | 0 => []
  | k + 1 => kK s k ++ [(kL (kAt s k), (kD (kAt s k) : Int))]
theorem kAt_le (s : RS) : ∀ k, (kAt s k).b.length ≤ s.b.length
  | 0 => Nat.le_refl _
  | k + 1 => Nat.le_trans (kR_le _) (kAt_le s k)
def GotN : Nat → RS → List (List H32 × Int) → RS → Prop
  | 0, s, K, s' => K = [] ∧ s' = s
  | m + 1, s, K, s' => ∃ K' t l need, GotN m s K' t ∧ GotQ t l need s' ∧ K = K' ++ [(l, (need : Int))]
theorem GotN.same {s : RS} : ∀ (m : Nat) {K : List (List H32 × Int)} {s' : RS}, GotN m s K s' → s'.e = false → (∀ k ∈ K, k.1.length ≤ 4) → K = kK s m ∧ s' = kAt s m
  | 0, K, s', h, he, hk => h
  | m + 1, K, s', h, he, hk => by
    obtain ⟨K', t, l, need, h1, h2, rfl⟩ := h
    obtain ⟨rfl, rfl, rfl⟩ := h2.same he (hk (l, (need : Int)) (by simp))
    obtain ⟨rfl, rfl⟩ := GotN.same m h1 (key_back he).1 (fun k hk' => hk k (by simp [hk']))
    exact ⟨rfl, rfl⟩
theorem GotN.prog {s : RS} : ∀ (m : Nat) {K : List (List H32 × Int)} {s' : RS}, GotN m s K s' → (kAt s m).e = false → K = kK s m ∧ s' = kAt s m
  | 0, K, s', h, he => h
  | m + 1, K, s', h, he => by
    obtain ⟨K', t, l, need, h1, h2, rfl⟩ := h
    obtain ⟨rfl, rfl⟩ := GotN.prog m h1 (key_back he).1
    obtain ⟨rfl, rfl, rfl⟩ := h2.prog he
    exact ⟨rfl, rfl⟩
def keysB (K : List (List H32 × Int)) : List UInt8 := K.flatMap fun k => keyB k.1 k.2
theorem keys_back (s : RS) : ∀ m, (kAt s m).e = false → s.e = false ∧ s.b = keysB (kK s m) ++ (kAt s m).b
  | 0, h => ⟨h, rfl⟩
  | m + 1, h => by
    obtain ⟨h1, h2⟩ := key_back (s := kAt s m) h
    obtain ⟨h3, h4⟩ := keys_back s m h1
    refine ⟨h3, ?_⟩
    rw [kK, keysB, List.flatMap_append]
    show s.b = keysB (kK s m) ++ ((keyB _ _ ++ [])) ++ (kR (kAt s m)).b
    rw [List.append_nil, List.append_assoc, ← h2]
    exact h4
def rtV (b : List UInt8) : Nat := (kindS 1 b).num.1
def rtX (b : List UInt8) : Nat := ((kindS 1 b).at 1).num.1
def rtS (b : List UInt8) : RS := (kindS 1 b).at 2
def rootB (v e : Int) (K : List (List H32 × Int)) : Bool := verB v && numB e && K.all fun k => isB k.1 k.2
/-- a root's bytes -/
def rootE (v e : Int) (K : List (List H32 × Int)) : List UInt8 := encAll [1] ++ (encAll [v, e] ++ keysB K)
theorem rootE_eq (v e : Int) (K : List (List H32 × Int)) : rootE v e K = encAll [1, v, e] ++ keysB K := by
  rw [rootE, ← List.append_assoc, ← encAll_app]
  rfl
def rtOk (b : List UInt8) : Bool := wholeB (kAt (rtS b) 4) && rootB (rtV b) (rtX b) (kK (rtS b) 4)
theorem rt_back {b : List UInt8} (h : rtOk b = true) : b = rootE (rtV b) (rtX b) (kK (rtS b) 4) := by
  unfold rtOk at h
  rw [Bool.and_eq_true] at h
  obtain ⟨h1, h2⟩ := whole_back h.1
  obtain ⟨a1, a2⟩ := keys_back (rtS b) 4 h1
  unfold rtV rtX
  generalize hS : kindS 1 b = S at *
  have hs : rtS b = S.at 2 := by rw [rtS, hS]
  rw [hs] at a1 a2 h2 ⊢
  obtain ⟨c1, c2, c3⟩ := num_back (s := S.at 1) a1
  obtain ⟨d1, d2, d3⟩ := num_back (s := S) c1
  have hb := kind_back (k := 1) (b := b) (by rw [hS]; exact d1)
  rw [hS] at hb
  rw [h2, List.append_nil] at a2
  have e3 : encAll [1, (S.num.1 : Int), ((S.at 1).num.1 : Int)] = enc 1 ++ (enc S.num.1 ++ enc (S.at 1).num.1) := by
    rw [show [(1 : Int), (S.num.1 : Int), ((S.at 1).num.1 : Int)] = [((1 : Nat) : Int)] ++ ([(S.num.1 : Int)] ++ [((S.at 1).num.1 : Int)]) from rfl, encAll_app, encAll_app, encN (n := 1) (by decide), encN d3, encN c3]
  rw [rootE_eq, e3, hb, List.append_assoc, List.append_assoc]
  congr 1
  rw [d2]
  congr 1
  show (S.at 1).b = _
  rw [c2]
  congr 1
theorem root_len4 {v e : Int} {K : List (List H32 × Int)} (h : rootB v e K = true) : ∀ k ∈ K, k.1.length ≤ 4 := by
  intro k hk
  unfold rootB at h
  rw [Bool.and_eq_true] at h
  have h1 := List.all_eq_true.1 h.2 k hk
  unfold isB at h1
  simp only [Bool.and_eq_true, decide_eq_true_eq] at h1
  exact h1.1.1.1
/-- the reference takes what the program takes -/
theorem rt_ref {b : List UInt8} {K : List (List H32 × Int)} {s' : RS} (h : GotN 4 (rtS b) K s') : (wholeB s' && rootB (rtV b) (rtX b) K && decide (b = rootE (rtV b) (rtX b) K)) = rtOk b ∧ (rtOk b = true → K = kK (rtS b) 4) := by
  by_cases hk : rtOk b = true
  · have h0 := hk
    unfold rtOk at h0
    rw [Bool.and_eq_true] at h0
    obtain ⟨rfl, rfl⟩ := GotN.prog 4 h (whole_back h0.1).1
    refine ⟨?_, fun _ => rfl⟩
    rw [hk, h0.1, h0.2, decide_eq_true (rt_back hk)]
    rfl
  · refine ⟨?_, fun h => absurd h hk⟩
    rw [Bool.not_eq_true] at hk
    rw [hk, ← Bool.not_eq_true]
    intro h1
    rw [Bool.and_eq_true, Bool.and_eq_true] at h1
    obtain ⟨rfl, rfl⟩ := GotN.same 4 h (whole_back h1.1.1).1 (root_len4 h1.1.2)
    unfold rtOk at hk
    rw [h1.1.1, h1.1.2] at hk
    cases hk
end Go.Proofs.Ythcleccofccbdaa
end
