/- KeyBytes. -/
import Derived.Test.YtmijlojjkgeplaaKyR
import Derived.Test.YtmijlojjkgeplaaKyD
import Derived.Test.YtmijlojjkgeplaaConv
open Go Go.RowKit
namespace Go.Proofs.Ytmijlojjkgeplaa
theorem EncPost.uni {ok : Bool} {bytes : List UInt8} {w w' : World} {e : Ending} (h : EncPost ok bytes w e w') :
    Step nowhere w w' ∧ ∃ A n c, e = .returned (.tuple #[.slice A n c, .int .i64 (if ok then 0 else 1)]) ∧ (if ok then bytes else []).length = n ∧ HR w' A (bs (if ok then bytes else [])) := by
  obtain ⟨hs, h⟩ := h
  refine ⟨hs, ?_⟩
  cases ok with
  | false =>
    obtain rfl : e = _ := h
    exact ⟨none, 0, 0, rfl, rfl, HR.nilB w'⟩
  | true =>
    obtain ⟨A, n, c, rfl, hn, hO, _⟩ := h
    exact ⟨A, n, c, rfl, hn.symm, ⟨hO.out.rd⟩⟩
def dLf (b : List UInt8) : Int := if dOk b then dLeaf b else 0
def dLl (b : List UInt8) : List H32 := if dOk b then dL b else []
def dPp (b : List UInt8) : List H32 := if dOk b then dP b else []
def dEr (b : List UInt8) : Int := if dOk b then 0 else 2
set_option maxRecDepth 100000 in
theorem DecPost.uni {b : List UInt8} {w w' : World} {e : Ending} (h : DecPost b w e w') :
    Step nowhere w w' ∧ ∃ A n c B m d, e = .returned (.tuple #[.agg #[.int .i64 (dLf b), .slice A n c, .slice B m d], .int .i64 (dEr b)]) ∧ (dLl b).length = n ∧ (dPp b).length = m ∧ HR w' A (cellsOf (dLl b)) ∧ HR w' B (cellsOf (dPp b)) := by
  obtain ⟨hs, h⟩ := h
  refine ⟨hs, ?_⟩
  unfold dLf dLl dPp dEr
  rcases hk : dOk b with _ | _
  · rw [hk] at h
    obtain rfl : e = _ := h
    exact ⟨none, 0, 0, none, 0, 0, rfl, rfl, rfl, HR.nilH w', HR.nilH w'⟩
  · rw [hk] at h
    obtain ⟨A, B, c, d, rfl, h1, h2, _, _⟩ := h
    exact ⟨A, 36, c, B, 4, d, rfl, RS.hs_len _ _, RS.hs_len _ _, ⟨h1.out.rd⟩, ⟨h2.out.rd⟩⟩
theorem dLl_le (b : List UInt8) : (dLl b).length ≤ 36 := by
  unfold dLl
  split
  · exact Nat.le_of_eq (RS.hs_len _ _)
  · exact Nat.zero_le _
theorem dPp_le (b : List UInt8) : (dPp b).length ≤ 4 := by
  unfold dPp
  split
  · exact Nat.le_of_eq (RS.hs_len _ _)
  · exact Nat.zero_le _
theorem run_emptyB (w : World) : (Instr.buildSlice 39 0 #[]).run Try.prog w = .ok (.slice (some ⟨w.heap.size, 0, none⟩) 0 0) (w.alloc (.cells (u8s []) 5)) := by kernel_rfl
instance : Fact' (([] : List UInt8).length ≤ maxLen) := ⟨Nat.zero_le _⟩
set_option maxRecDepth 100000 in
set_option maxHeartbeats 1600000 in
theorem keyBytes_calls {leaf : Int} {A B C : Option Addr} {n c m d q e : Nat} {l p : List H32} {b : List UInt8} {w : World} [hr : HR w A (cellsOf l)] [hp : HR w B (cellsOf p)] [hb : HR w C (bs b)] (hl : l.length = n) (hm : p.length = m) (hq : b.length = q) (hcap : q ≤ e) (hn : n ≤ 10000000000000) (hm9 : m ≤ 10000000000000) (hmax : q ≤ 9223372036854775807) :
    Calls Try.prog 5 #[.agg #[.int .i64 leaf, .slice A n c, .slice B m d], .slice C q e] w fun e w' => e = .returned (.bool true) ∧ Chg nowhere w w' := by
  have HLL := Lib.hid hl
  have HPL := Lib.hid hm
  have HBL := Lib.hid hq
  clear hl hm hq
  by_cases c0 : 200 < n + m ∨ 3000 < q
  · have c1 : 200 < (n : Int) + m ∨ (¬ 200 < (n : Int) + m ∧ 3000 < (q : Int)) := by omega
    clear c0
    rcases c1 with c1 | ⟨c1, c2⟩
    all_goals
      go_enter Try.func5, Try.ntmps5
      go_wp2_with (first | go_skip | ((with_reducible apply (wpl_alloc (dst := some 2))); intro zs wzs _ _ _) | ((with_reducible apply (wpl_box_agg (dst := some 2))); (exact rfl); intro zs wzs _ _ _) | ((with_reducible apply (wpl_box_int (dst := some 2))); (exact rfl); intro zs wzs _ _ _) | ((with_reducible apply (wpl_box_slice (dst := some 2))); (exact rfl); intro zs wzs _ _ _) | ((with_reducible apply (wpl_box_str (dst := some 2))); (exact rfl); intro zs wzs _ _ _) | ((with_reducible apply (wpl_box_bool (dst := some 2))); (exact rfl); intro zs wzs _ _ _) | ((with_reducible apply (wpl_box_ptr (dst := some 2))); (exact rfl); intro zs wzs _ _ _) | ((with_reducible apply wpl_alloc); intro z wz _ _ _) | ((with_reducible apply wpl_box_agg); (exact rfl); intro z wz _ _ _) | ((with_reducible apply wpl_box_int); (exact rfl); intro z wz _ _ _) | ((with_reducible apply wpl_box_slice); (exact rfl); intro z wz _ _ _) | ((with_reducible apply wpl_box_str); (exact rfl); intro z wz _ _ _) | ((with_reducible apply wpl_box_bool); (exact rfl); intro z wz _ _ _) | ((with_reducible apply wpl_box_ptr); (exact rfl); intro z wz _ _ _) | ((with_reducible apply (wpl_guard (op := .load _ _))); (exact rfl)) | ((with_reducible apply wpl_loadrow); (exact rfl); (exact inferInstance); (exact inferInstance); (first | (with_reducible assumption) | (with_reducible exact H32.size _) | kernel_rfl)) | ((with_reducible apply wpl_loadcellN); (exact rfl); (exact inferInstance); (exact rfl)) | ((with_reducible apply wpl_storerow); (exact rfl); (exact rfl); (exact inferInstance); (exact inferInstance); (first | (with_reducible assumption) | (with_reducible exact H32.size _) | kernel_rfl); (first | (with_reducible assumption) | (with_reducible exact H32.size _) | kernel_rfl); (first | (with_reducible exact u8s_one _) | (with_reducible assumption) | kernel_rfl); intro ws _ _) | ((with_reducible apply wpl_storecell); (exact rfl); (exact rfl); (exact inferInstance); (exact rfl); (first | (with_reducible assumption) | omega | (focus (simp; done)) | (focus (simp; omega; done)) | decide); intro ws _ _))
      go_ret
      exact ⟨rfl, (stepN (w0 := w)).chg⟩
  · have c1 : ¬ 200 < (n : Int) + m := by omega
    have c2 : ¬ 3000 < (q : Int) := by omega
    have hq3 : q ≤ 3000 := by omega
    clear c0
    go_enter Try.func5, Try.ntmps5
    go_wp2_with (first | go_skip | ((with_reducible apply (wpl_alloc (dst := some 2))); intro zs wzs _ _ _) | ((with_reducible apply (wpl_box_agg (dst := some 2))); (exact rfl); intro zs wzs _ _ _) | ((with_reducible apply (wpl_box_int (dst := some 2))); (exact rfl); intro zs wzs _ _ _) | ((with_reducible apply (wpl_box_slice (dst := some 2))); (exact rfl); intro zs wzs _ _ _) | ((with_reducible apply (wpl_box_str (dst := some 2))); (exact rfl); intro zs wzs _ _ _) | ((with_reducible apply (wpl_box_bool (dst := some 2))); (exact rfl); intro zs wzs _ _ _) | ((with_reducible apply (wpl_box_ptr (dst := some 2))); (exact rfl); intro zs wzs _ _ _) | ((with_reducible apply wpl_alloc); intro z wz _ _ _) | ((with_reducible apply wpl_box_agg); (exact rfl); intro z wz _ _ _) | ((with_reducible apply wpl_box_int); (exact rfl); intro z wz _ _ _) | ((with_reducible apply wpl_box_slice); (exact rfl); intro z wz _ _ _) | ((with_reducible apply wpl_box_str); (exact rfl); intro z wz _ _ _) | ((with_reducible apply wpl_box_bool); (exact rfl); intro z wz _ _ _) | ((with_reducible apply wpl_box_ptr); (exact rfl); intro z wz _ _ _) | ((with_reducible apply (wpl_guard (op := .load _ _))); (exact rfl)) | ((with_reducible apply wpl_loadrow); (exact rfl); (exact inferInstance); (exact inferInstance); (first | (with_reducible assumption) | (with_reducible exact H32.size _) | kernel_rfl)) | ((with_reducible apply wpl_loadcellN); (exact rfl); (exact inferInstance); (exact rfl)) | ((with_reducible apply wpl_storerow); (exact rfl); (exact rfl); (exact inferInstance); (exact inferInstance); (first | (with_reducible assumption) | (with_reducible exact H32.size _) | kernel_rfl); (first | (with_reducible assumption) | (with_reducible exact H32.size _) | kernel_rfl); (first | (with_reducible exact u8s_one _) | (with_reducible assumption) | kernel_rfl); intro ws _ _) | ((with_reducible apply wpl_storecell); (exact rfl); (exact rfl); (exact inferInstance); (exact rfl); (first | (with_reducible assumption) | omega | (focus (simp; done)) | (focus (simp; omega; done)) | decide); intro ws _ _))
    refine (kencode_calls HLL.out HPL.out).mono ?_
    rintro x w1 h1
    obtain ⟨_, A1, n1, c1', rfl, hn1, hR1⟩ := h1.uni
    clear h1
    obtain ⟨ys, hys⟩ : ∃ ys, ys = (if isS leaf n m then sigB leaf l p else []) := ⟨_, rfl⟩
    obtain ⟨er, her⟩ : ∃ er : Int, er = (if isS leaf n m then 0 else 1) := ⟨_, rfl⟩
    rw [← hys] at hn1 hR1
    rw [← her]
    have HY := Lib.hid hys
    have HE := Lib.hid her
    have HN1 := Lib.hid hn1
    have hn1b : n1 ≤ 9223372036854775807 := by
      have h1 := encAll_len [leaf]
      have h2 := flatH_len l
      have h3 := flatH_len p
      have h4 := HLL.out
      have h5 := HPL.out
      rw [← hn1, hys]
      split
      · simp only [sigB, List.length_append, List.length_cons, List.length_nil] at *
        omega
      · exact Nat.zero_le _
    clear hys her hn1
    go_wp2_with (first | go_skip | ((with_reducible apply wpl_alloc); intro z wz _ _ _) | ((with_reducible apply wpl_box_agg); (exact rfl); intro z wz _ _ _) | ((with_reducible apply wpl_box_int); (exact rfl); intro z wz _ _ _) | ((with_reducible apply wpl_box_slice); (exact rfl); intro z wz _ _ _) | ((with_reducible apply wpl_box_str); (exact rfl); intro z wz _ _ _) | ((with_reducible apply wpl_box_bool); (exact rfl); intro z wz _ _ _) | ((with_reducible apply wpl_box_ptr); (exact rfl); intro z wz _ _ _) | ((with_reducible apply (wpl_guard (op := .load _ _))); (exact rfl)) | ((with_reducible apply wpl_loadrow); (exact rfl); (exact inferInstance); (exact inferInstance); (first | (with_reducible assumption) | (with_reducible exact H32.size _) | kernel_rfl)) | ((with_reducible apply wpl_loadcellN); (exact rfl); (exact inferInstance); (exact rfl)) | ((with_reducible apply wpl_storerow); (exact rfl); (exact rfl); (exact inferInstance); (exact inferInstance); (first | (with_reducible assumption) | (with_reducible exact H32.size _) | kernel_rfl); (first | (with_reducible assumption) | (with_reducible exact H32.size _) | kernel_rfl); (first | (with_reducible exact u8s_one _) | (with_reducible assumption) | kernel_rfl); intro ws _ _) | ((with_reducible apply wpl_storecell); (exact rfl); (exact rfl); (exact inferInstance); (exact rfl); (first | (with_reducible assumption) | omega | (focus (simp; done)) | (focus (simp; omega; done)) | decide); intro ws _ _))
    refine (rkencode_calls HLL.out HPL.out).mono ?_
    rintro x w2 h1
    obtain ⟨_, A2, n2, c2', rfl, hn2, hR2⟩ := h1.uni
    clear h1
    rw [← HY.out] at hn2 hR2
    rw [← HE.out]
    have HN2 := Lib.hid hn2
    have hn2b : n2 ≤ 9223372036854775807 := by rw [← hn2, HN1.out]; exact hn1b
    clear hn2
    have nw2 : Nw w w2 := inferInstance
    have hbq : b.length = q := HBL.out
    go_wp2_with (first | go_skip | ((with_reducible apply (stop_dst (dst := some 37))); (try simp only [Act.put, List.setIfInBounds_toArray, List.set_cons_succ, List.set_cons_zero]); ((with_reducible apply (wpl_bslice (dst := some 37))); (exact run_emptyB _); intro zb wb _ _ _)) | ((with_reducible apply wpl_appendB); (exact rfl); (exact rfl); (exact inferInstance); (exact inferInstance); (exact inferInstance); (exact hbq); omega; intro A3 c3 wa _ hO3 _ _) | ((with_reducible apply wpl_alloc); intro z wz _ _ _) | ((with_reducible apply wpl_box_agg); (exact rfl); intro z wz _ _ _) | ((with_reducible apply wpl_box_int); (exact rfl); intro z wz _ _ _) | ((with_reducible apply wpl_box_slice); (exact rfl); intro z wz _ _ _) | ((with_reducible apply wpl_box_str); (exact rfl); intro z wz _ _ _) | ((with_reducible apply wpl_box_bool); (exact rfl); intro z wz _ _ _) | ((with_reducible apply wpl_box_ptr); (exact rfl); intro z wz _ _ _) | ((with_reducible apply (wpl_guard (op := .load _ _))); (exact rfl)) | ((with_reducible apply wpl_loadrow); (exact rfl); (exact inferInstance); (exact inferInstance); (first | (with_reducible assumption) | (with_reducible exact H32.size _) | kernel_rfl)) | ((with_reducible apply wpl_loadcellN); (exact rfl); (exact inferInstance); (exact rfl)) | ((with_reducible apply wpl_storerow); (exact rfl); (exact rfl); (exact inferInstance); (exact inferInstance); (first | (with_reducible assumption) | (with_reducible exact H32.size _) | kernel_rfl); (first | (with_reducible assumption) | (with_reducible exact H32.size _) | kernel_rfl); (first | (with_reducible exact u8s_one _) | (with_reducible assumption) | kernel_rfl); intro ws _ _) | ((with_reducible apply wpl_storecell); (exact rfl); (exact rfl); (exact inferInstance); (exact rfl); (first | (with_reducible assumption) | omega | (focus (simp; done)) | (focus (simp; omega; done)) | decide); intro ws _ _))
    have hR3 : HR wa A3 (bs b) := ⟨by
      have := hO3.out.rd
      rwa [List.nil_append] at this⟩
    clear hO3
    refine (kdecode_calls (b := b) (by have := HBL.out; omega) (by omega)).mono ?_
    rintro x w3 h1
    obtain ⟨_, A4, n4, c4, B4, m4, d4, rfl, hn4, hm4, hR4, hP4⟩ := h1.uni
    clear h1
    have HN4 := Lib.hid hn4
    have HM4 := Lib.hid hm4
    clear hn4 hm4
    have nw3 : Nw w w3 := inferInstance
    obtain ⟨lf, hlf⟩ : ∃ lf, lf = dLf b := ⟨_, rfl⟩
    obtain ⟨dr, hdr⟩ : ∃ dr, dr = dEr b := ⟨_, rfl⟩
    rw [← hlf, ← hdr]
    have HLF := Lib.hid hlf
    have HDR := Lib.hid hdr
    clear hlf hdr
    go_wp2_with (first | go_skip | ((with_reducible apply (wpl_alloc (dst := some 9))); intro z9 wz9 _ _ _) | ((with_reducible apply (wpl_box_agg (dst := some 9))); (exact rfl); intro z9 wz9 _ _ _) | ((with_reducible apply (wpl_box_int (dst := some 9))); (exact rfl); intro z9 wz9 _ _ _) | ((with_reducible apply (wpl_box_slice (dst := some 9))); (exact rfl); intro z9 wz9 _ _ _) | ((with_reducible apply (wpl_box_str (dst := some 9))); (exact rfl); intro z9 wz9 _ _ _) | ((with_reducible apply (wpl_box_bool (dst := some 9))); (exact rfl); intro z9 wz9 _ _ _) | ((with_reducible apply (wpl_box_ptr (dst := some 9))); (exact rfl); intro z9 wz9 _ _ _) | ((with_reducible apply wpl_alloc); intro z wz _ _ _) | ((with_reducible apply wpl_box_agg); (exact rfl); intro z wz _ _ _) | ((with_reducible apply wpl_box_int); (exact rfl); intro z wz _ _ _) | ((with_reducible apply wpl_box_slice); (exact rfl); intro z wz _ _ _) | ((with_reducible apply wpl_box_str); (exact rfl); intro z wz _ _ _) | ((with_reducible apply wpl_box_bool); (exact rfl); intro z wz _ _ _) | ((with_reducible apply wpl_box_ptr); (exact rfl); intro z wz _ _ _) | ((with_reducible apply (wpl_guard (op := .load _ _))); (exact rfl)) | ((with_reducible apply wpl_loadrow); (exact rfl); (exact inferInstance); (exact inferInstance); (first | (with_reducible assumption) | (with_reducible exact H32.size _) | kernel_rfl)) | ((with_reducible apply wpl_loadcellN); (exact rfl); (exact inferInstance); (exact rfl)) | ((with_reducible apply wpl_storerow); (exact rfl); (exact rfl); (exact inferInstance); (exact inferInstance); (first | (with_reducible assumption) | (with_reducible exact H32.size _) | kernel_rfl); (first | (with_reducible assumption) | (with_reducible exact H32.size _) | kernel_rfl); (first | (with_reducible exact u8s_one _) | (with_reducible assumption) | kernel_rfl); intro ws _ _) | ((with_reducible apply wpl_storecell); (exact rfl); (exact rfl); (exact inferInstance); (exact rfl); (first | (with_reducible assumption) | omega | (focus (simp; done)) | (focus (simp; omega; done)) | decide); intro ws _ _))
    refine (rkdecode_calls (b := b) hbq hcap (by omega)).mono ?_
    rintro x w4 h1
    obtain ⟨_, A5, n5, c5, B5, m5, d5, rfl, hn5, hm5, hR5, hP5⟩ := h1.uni
    clear h1
    have HN5 := Lib.hid hn5
    have HM5 := Lib.hid hm5
    clear hn5 hm5
    rw [← HLF.out, ← HDR.out]
    have nw4 : Nw w w4 := inferInstance
    have hN1 : ys.length = n1 := HN1.out
    have hN2 : ys.length = n2 := HN2.out
    go_wp2_with (first | go_skip | ((with_reducible apply wpl_conv); (exact rfl); (exact inferInstance); (first | (exact hN1) | (exact hN2)); (exact Try.underlying39); (exact Try.underlying5); (exact Try.underlying9)) | ((with_reducible apply (wpl_alloc (dst := some 11))); intro z11 wz11 _ _ _) | ((with_reducible apply (wpl_box_agg (dst := some 11))); (exact rfl); intro z11 wz11 _ _ _) | ((with_reducible apply (wpl_box_int (dst := some 11))); (exact rfl); intro z11 wz11 _ _ _) | ((with_reducible apply (wpl_box_slice (dst := some 11))); (exact rfl); intro z11 wz11 _ _ _) | ((with_reducible apply (wpl_box_str (dst := some 11))); (exact rfl); intro z11 wz11 _ _ _) | ((with_reducible apply (wpl_box_bool (dst := some 11))); (exact rfl); intro z11 wz11 _ _ _) | ((with_reducible apply (wpl_box_ptr (dst := some 11))); (exact rfl); intro z11 wz11 _ _ _) | ((with_reducible apply wpl_alloc); intro z wz _ _ _) | ((with_reducible apply wpl_box_agg); (exact rfl); intro z wz _ _ _) | ((with_reducible apply wpl_box_int); (exact rfl); intro z wz _ _ _) | ((with_reducible apply wpl_box_slice); (exact rfl); intro z wz _ _ _) | ((with_reducible apply wpl_box_str); (exact rfl); intro z wz _ _ _) | ((with_reducible apply wpl_box_bool); (exact rfl); intro z wz _ _ _) | ((with_reducible apply wpl_box_ptr); (exact rfl); intro z wz _ _ _) | ((with_reducible apply (wpl_guard (op := .load _ _))); (exact rfl)) | ((with_reducible apply wpl_loadrow); (exact rfl); (exact inferInstance); (exact inferInstance); (first | (with_reducible assumption) | (with_reducible exact H32.size _) | kernel_rfl)) | ((with_reducible apply wpl_loadcellN); (exact rfl); (exact inferInstance); (exact rfl)) | ((with_reducible apply wpl_storerow); (exact rfl); (exact rfl); (exact inferInstance); (exact inferInstance); (first | (with_reducible assumption) | (with_reducible exact H32.size _) | kernel_rfl); (first | (with_reducible assumption) | (with_reducible exact H32.size _) | kernel_rfl); (first | (with_reducible exact u8s_one _) | (with_reducible assumption) | kernel_rfl); intro ws _ _) | ((with_reducible apply wpl_storecell); (exact rfl); (exact rfl); (exact inferInstance); (exact rfl); (first | (with_reducible assumption) | omega | (focus (simp; done)) | (focus (simp; omega; done)) | decide); intro ws _ _) | ((with_reducible apply (wpl_loadhash (t := 23))); (exact rfl); (exact inferInstance); (exact inferInstance); (first | (with_reducible assumption) | omega)) | ((with_reducible apply (wpl_storehash (t := 23))); (exact rfl); (exact rfl); (exact inferInstance); (exact inferInstance); (first | (with_reducible assumption) | omega | (focus (simp; done)) | (focus (simp; omega; done)) | decide); intro ws _ _) | ((with_reducible apply wpl_appendB); (exact rfl); (exact rfl); (exact inferInstance); (first | exact inferInstance | exact ⟨Own.nil _ _ _⟩); (exact inferInstance); (first | (with_reducible assumption) | (with_reducible exact H32.len _) | (focus (simp; done)) | omega); (first | (with_reducible assumption) | omega); intro A' c' wa _ _ _ hcap) | ((with_reducible apply wpl_appendH); (exact rfl); (exact rfl); (exact inferInstance); (first | exact inferInstance | exact ⟨Own.nil _ _ _⟩); (exact inferInstance); (first | (with_reducible assumption) | omega); intro A' c' wa _ _ _ hcap) | ((with_reducible apply wpl_conv); (exact rfl); (exact inferInstance); (first | (with_reducible assumption) | (focus (simp; done)) | omega); (exact Try.underlying39); (exact Try.underlying5); (exact Try.underlying9)) | ((with_reducible apply (wpl_loadint (t := 3))); (exact rfl); (exact inferInstance); (exact inferInstance); (first | (with_reducible assumption) | omega)) | ((with_reducible apply (wpl_loadbyte (t := 5))); (exact rfl); (exact inferInstance); (exact inferInstance); (first | (with_reducible assumption) | omega)) | ((with_reducible apply (wpl_storeint (t := 3))); (exact rfl); (exact rfl); (exact inferInstance); (first | (with_reducible assumption) | omega); intro ws _ _) | ((with_reducible apply (wpl_storebyte (t := 5))); (exact rfl); (exact rfl); (exact inferInstance); (first | (with_reducible assumption) | omega | (focus (simp; done)) | (focus (simp; omega; done)) | decide); (constructor <;> omega); intro ws _ _))
    refine (rsame_calls (A := A4) (B := B4) (C := A5) (D := B5) (w := ws) HN4.out HM4.out HN5.out HM5.out (by have := dLl_le b; have := HN4.out; omega) (by have := dPp_le b; have := HM4.out; omega)).mono ?_
    rw [sameS_self]
    rintro x w5 ⟨rfl, _⟩
    go_wp2_with (first | go_skip | ((with_reducible apply wpl_alloc); intro z wz _ _ _) | ((with_reducible apply wpl_box_agg); (exact rfl); intro z wz _ _ _) | ((with_reducible apply wpl_box_int); (exact rfl); intro z wz _ _ _) | ((with_reducible apply wpl_box_slice); (exact rfl); intro z wz _ _ _) | ((with_reducible apply wpl_box_str); (exact rfl); intro z wz _ _ _) | ((with_reducible apply wpl_box_bool); (exact rfl); intro z wz _ _ _) | ((with_reducible apply wpl_box_ptr); (exact rfl); intro z wz _ _ _) | ((with_reducible apply (wpl_guard (op := .load _ _))); (exact rfl)) | ((with_reducible apply wpl_loadrow); (exact rfl); (exact inferInstance); (exact inferInstance); (first | (with_reducible assumption) | (with_reducible exact H32.size _) | kernel_rfl)) | ((with_reducible apply wpl_loadcellN); (exact rfl); (exact inferInstance); (exact rfl)) | ((with_reducible apply wpl_storerow); (exact rfl); (exact rfl); (exact inferInstance); (exact inferInstance); (first | (with_reducible assumption) | (with_reducible exact H32.size _) | kernel_rfl); (first | (with_reducible assumption) | (with_reducible exact H32.size _) | kernel_rfl); (first | (with_reducible exact u8s_one _) | (with_reducible assumption) | kernel_rfl); intro ws _ _) | ((with_reducible apply wpl_storecell); (exact rfl); (exact rfl); (exact inferInstance); (exact rfl); (first | (with_reducible assumption) | omega | (focus (simp; done)) | (focus (simp; omega; done)) | decide); intro ws _ _))
    refine (kyKnown_calls _).mono ?_
    rintro x w6 ⟨rfl, _⟩
    go_wp2_with (first | go_skip | ((with_reducible apply wpl_alloc); intro z wz _ _ _) | ((with_reducible apply wpl_box_agg); (exact rfl); intro z wz _ _ _) | ((with_reducible apply wpl_box_int); (exact rfl); intro z wz _ _ _) | ((with_reducible apply wpl_box_slice); (exact rfl); intro z wz _ _ _) | ((with_reducible apply wpl_box_str); (exact rfl); intro z wz _ _ _) | ((with_reducible apply wpl_box_bool); (exact rfl); intro z wz _ _ _) | ((with_reducible apply wpl_box_ptr); (exact rfl); intro z wz _ _ _) | ((with_reducible apply (wpl_guard (op := .load _ _))); (exact rfl)) | ((with_reducible apply wpl_loadrow); (exact rfl); (exact inferInstance); (exact inferInstance); (first | (with_reducible assumption) | (with_reducible exact H32.size _) | kernel_rfl)) | ((with_reducible apply wpl_loadcellN); (exact rfl); (exact inferInstance); (exact rfl)) | ((with_reducible apply wpl_storerow); (exact rfl); (exact rfl); (exact inferInstance); (exact inferInstance); (first | (with_reducible assumption) | (with_reducible exact H32.size _) | kernel_rfl); (first | (with_reducible assumption) | (with_reducible exact H32.size _) | kernel_rfl); (first | (with_reducible exact u8s_one _) | (with_reducible assumption) | kernel_rfl); intro ws _ _) | ((with_reducible apply wpl_storecell); (exact rfl); (exact rfl); (exact inferInstance); (exact rfl); (first | (with_reducible assumption) | omega | (focus (simp; done)) | (focus (simp; omega; done)) | decide); intro ws _ _))
    go_ret
    exact ⟨rfl, (stepN (w0 := w)).chg⟩
end Go.Proofs.Ytmijlojjkgeplaa
