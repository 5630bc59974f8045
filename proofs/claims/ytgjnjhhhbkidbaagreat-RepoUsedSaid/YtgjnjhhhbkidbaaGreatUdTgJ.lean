/- TgI, TgJ -/
import Derived.Test.YtgjnjhhhbkidbaaGreatUdTgH
import Derived.Test.YtgjnjhhhbkidbaaGreatUdSnC
section
open Go Go.RowKit
namespace Go.Proofs.YtgjnjhhhbkidbaaGreat
abbrev Str := List UInt8
instance rowCStr : RowC Str := ⟨1, fun s => [.string (strL s)], fun _ => rfl, fun s u hu => by
  rw [List.mem_singleton.1 hu]
  rfl, []⟩
instance elemStr : ElemT Tryz.prog 197 9 1 16 (.string ⟨#[]⟩) := ⟨⟨Tryz.underlying197, by kernel_rfl, rfl, by decide⟩⟩
/-- no string twice, of the first -/
def allS (l : List Str) : Nat → Bool
  | 0 => true
  | k + 1 => allS l k && !decide (gt l k ∈ l.take k)
theorem allS_false (l : List Str) (k : Nat) (h : allS l k = false) : ∀ n, k ≤ n → allS l n = false
  | 0, hn => by
    obtain rfl : k = 0 := by omega
    exact h
  | n + 1, hn => by
    by_cases e : k = n + 1
    · subst e; exact h
    · rw [allS, allS_false l k h n (by omega), Bool.false_and]
theorem str_cell (l : List Str) (k : Nat) : nth (RowC.enc (gt l k)) 0 = some (.string (strL (gt l k))) := rfl
set_option maxRecDepth 100000 in
set_option maxHeartbeats 1600000 in
theorem indexS_calls {A : Option Addr} {n c : Nat} {l : List Str} (x : Str) {w : World} [hr : HR w A (cellsOf l)] (hl : l.length = n) (hmax : n ≤ 1000000000) :
    Calls Tryz.prog 189 #[.slice A n c, .string (strL x)] w fun e w' => ∃ r : Int, e = .returned (.int .i64 r) ∧ (0 ≤ r ↔ x ∈ l) ∧ Step nowhere w w' := by
  have HL := Lib.hid hl
  go_enter Tryz.func189, Tryz.ntmps189
  go_wp2_with fail
  go_loopw [8] (fun kv wr => ∃ k : Nat, k ≤ n ∧ kv = .int .i64 (k : Int) ∧ Hid (x ∉ l.take k) ∧ Step nowhere w wr) (fun kv _ => n - (intOf kv).toNat)
  case atStart => exact ⟨0, Nat.zero_le _, rfl, Lib.hid (by simp), stepN⟩
  case round =>
    obtain ⟨k, hk, rfl, HJ, _⟩ := hrel
    by_cases hlt : k < n
    · have hltI : (k : Int) < n := by omega
      have hkl : k < l.length := by omega
      have hmem : gt l k ∈ l := gt_mem l k hkl
      have HTK : Hid (l.take (k + 1) = l.take k ++ [gt l k]) := Lib.hid (by
        rw [← List.take_append_getElem hkl]
        simp [gt, List.getD_eq_getElem?_getD, hkl])
      by_cases hx : x = gt l k
      · have hE : ((strL x).toList == (strL (gt l k)).toList) = true := by rw [hx]; simp
        have HM : Hid (x ∈ l) := Lib.hid (by rw [hx]; exact hmem)
        clear hmem hx
        go_wp2_with (first | ((with_reducible apply (wpl_loadF (α := Str) (k := k) (j := 0) (s := 1))); infer_instance; (exact rfl); infer_instance; (exact rfl); (exact hkl); (exact str_cell _ _)) | ((with_reducible apply (wpl_indexE (α := Str) (t := 197))); (exact rfl); (exact rfl); infer_instance; infer_instance; (first | (with_reducible assumption) | omega | (focus (simp; done)) | (focus (simp; omega; done)) | decide); (exact rfl); (decide); (first | (with_reducible assumption) | omega | (focus (simp; done)) | (focus (simp; omega; done)) | decide)))
        go_ret
        exact ⟨_, rfl, ⟨fun _ => HM.out, fun _ => by omega⟩, stepN⟩
      · have hE : ((strL x).toList == (strL (gt l k)).toList) = false := by rw [strL_list, strL_list]; simpa using hx
        have HN : Hid (x ∉ l.take (k + 1)) := Lib.hid (by
          rw [HTK.out, List.mem_append, List.mem_singleton]
          rintro (h | h)
          · exact HJ.out h
          · exact hx h)
        clear hmem hx
        go_wp2_with (first | ((with_reducible apply (wpl_loadF (α := Str) (k := k) (j := 0) (s := 1))); infer_instance; (exact rfl); infer_instance; (exact rfl); (exact hkl); (exact str_cell _ _)) | ((with_reducible apply (wpl_indexE (α := Str) (t := 197))); (exact rfl); (exact rfl); infer_instance; infer_instance; (first | (with_reducible assumption) | omega | (focus (simp; done)) | (focus (simp; omega; done)) | decide); (exact rfl); (decide); (first | (with_reducible assumption) | omega | (focus (simp; done)) | (focus (simp; omega; done)) | decide)))
        exact ⟨⟨k + 1, by omega, by go_num, HN, stepN⟩, by simp [intOf]; omega⟩
    · have hltI : ¬ (k : Int) < n := by omega
      have HF : Hid (x ∉ l) := Lib.hid (by
        have h1 := HJ.out
        rwa [List.take_of_length_le (by have := HL.out; omega)] at h1)
      go_wp2_with fail
      go_ret
      exact ⟨_, rfl, ⟨fun h => by simp at h, fun h => absurd h HF.out⟩, stepN⟩
set_option maxRecDepth 100000 in
set_option maxHeartbeats 1600000 in
theorem containsS_calls {A : Option Addr} {n c : Nat} {l : List Str} (x : Str) {w : World} [hr : HR w A (cellsOf l)] (hl : l.length = n) (hmax : n ≤ 1000000000) :
    Calls Tryz.prog 166 #[.slice A n c, .string (strL x)] w fun e w' => e = .returned (.bool (decide (x ∈ l))) ∧ Step nowhere w w' := by
  go_enter Tryz.func166, Tryz.ntmps166
  go_wp2_with fail
  refine (indexS_calls (l := l) x hl hmax).mono ?_
  rintro e w1 ⟨r, rfl, hr, _⟩
  have hd : decide (0 ≤ r) = decide (x ∈ l) := decide_eq_decide.2 hr
  have HD := Lib.hid hd
  clear hd hr
  go_wp2_with fail
  go_ret
  refine ⟨?_, stepN⟩
  rw [← HD.out]
  rfl
set_option maxRecDepth 100000 in
set_option maxHeartbeats 1600000 in
theorem unlikeS_calls {A : Option Addr} {n c : Nat} {l : List Str} {w : World} [hr : HR w A (cellsOf l)] (hl : l.length = n) (hc : n ≤ c) (hmax : n ≤ 1000000000) :
    Calls Tryz.prog 118 #[.slice A n c] w fun e w' => e = .returned (.bool (allS l n)) ∧ Step nowhere w w' := by
  obtain ⟨R, hR⟩ : ∃ R, R = allS l n := ⟨_, rfl⟩
  have HRE := Lib.hid hR
  rw [← hR]
  clear hR
  go_enter Tryz.func118, Tryz.ntmps118
  go_wp2_with fail
  go_loopw [7] (fun kv wr => ∃ k : Nat, k ≤ n ∧ kv = .int .i64 (k : Int) ∧ Hid (allS l k = true) ∧ Step nowhere w wr) (fun kv _ => n - (intOf kv).toNat)
  case atStart => exact ⟨0, Nat.zero_le _, rfl, Lib.hid rfl, stepN⟩
  case round =>
    obtain ⟨k, hk, rfl, HA, _⟩ := hrel
    by_cases hlt : k < n
    · have hltI : (k : Int) < n := by omega
      have hkl : k < l.length := by omega
      have hkc : k ≤ c := by omega
      have HTL : Hid ((l.take k).length = k) := Lib.hid (by rw [List.length_take]; omega)
      obtain ⟨V, hV⟩ : ∃ V, V = decide (gt l k ∈ l.take k) := ⟨_, rfl⟩
      have HV := Lib.hid hV
      have HA2 : Hid (allS l (k + 1) = !V) := Lib.hid (by rw [allS, HA.out, hV, Bool.true_and])
      clear hV
      go_wp2_with (first | ((with_reducible apply (wpl_loadF (α := Str) (k := k) (j := 0) (s := 1))); infer_instance; (exact rfl); infer_instance; (exact rfl); (exact hkl); (exact str_cell _ _)) | ((with_reducible apply wpl_sl_h); (exact rfl); (exact rfl); infer_instance; (first | (with_reducible assumption) | omega)) | ((with_reducible apply (wpl_indexE (α := Str) (t := 197))); (exact rfl); (exact rfl); infer_instance; infer_instance; (first | (with_reducible assumption) | omega | (focus (simp; done)) | (focus (simp; omega; done)) | decide); (exact rfl); (decide); (first | (with_reducible assumption) | omega | (focus (simp; done)) | (focus (simp; omega; done)) | decide)))
      refine (containsS_calls (l := l.take k) (hr := HR.takeR inferInstance k) (gt l k) HTL.out (by omega)).mono ?_
      rw [← HV.out]
      rintro e w2 ⟨rfl, _⟩
      cases V
      case false =>
        go_wp2_with fail
        exact ⟨⟨k + 1, by omega, by go_num, Lib.hid (by rw [HA2.out]; rfl), stepN⟩, by simp [intOf]; omega⟩
      case true =>
        have HF : Hid (R = false) := Lib.hid (by rw [HRE.out]; exact allS_false l (k + 1) (by rw [HA2.out]; rfl) n hlt)
        go_wp2_with fail
        go_ret
        rw [HF.out]
        exact ⟨rfl, stepN⟩
    · have hltI : ¬ (k : Int) < n := by omega
      have hkn : k = n := by omega
      have HKN := Lib.hid hkn
      clear hkn
      go_wp2_with fail
      go_ret
      refine ⟨?_, stepN⟩
      rw [HRE.out, ← HKN.out, HA.out]
      rfl
end Go.Proofs.YtgjnjhhhbkidbaaGreat
end
section
open Go Go.RowKit
namespace Go.Proofs.YtgjnjhhhbkidbaaGreat
theorem run_str1T (s : Str) (w : World) : (Instr.buildSlice 197 1 #[(0, .string (strL s))]).run Tryz.prog w = .ok (.slice (some ⟨w.heap.size, 0, none⟩) 1 1) (w.alloc (.cells (cellsOf [s]).toArray 9)) := by kernel_rfl
def namesD (K : List DeleR) : List Str := K.map DeleR.l
theorem namesD_take (K : List DeleR) (k : Nat) (h : k < K.length) : namesD (K.take (k + 1)) = namesD (K.take k) ++ [(gt K k).l] := by
  rw [namesD, ← List.take_append_getElem h, List.map_append]
  simp [namesD, gt, List.getD_eq_getElem?_getD, h]
set_option maxRecDepth 100000 in
set_option maxHeartbeats 1600000 in
theorem names_calls {A : Option Addr} {n c : Nat} {K : List DeleR} {w : World} [hr : HR w A (cellsOf K)] (hl : K.length = n) (hmax : n ≤ 1000000) :
    Calls Tryz.prog 119 #[.slice A n c] w fun e w' => ∃ (A' : Option Addr) (c' : Nat), e = .returned (.slice A' n c') ∧ n ≤ c' ∧ HR w' A' (cellsOf (namesD K)) ∧ Step nowhere w w' := by
  have HL := Lib.hid hl
  have HRR := Lib.hid hr.out
  have hcell0 : HO w 9 1 none 0 0 (cellsOf ([] : List Str)) := ⟨Own.nil _ _ _⟩
  go_enter Tryz.func119, Tryz.ntmps119
  go_wp2_with fail
  go_loopw [3, 8] (fun ov iv wr => ∃ (k : Nat) (A1 : Option Addr) (c1 : Nat), k ≤ n ∧ iv = .int .i64 (k : Int) ∧ ov = .slice A1 k c1 ∧ k ≤ c1 ∧ Step nowhere w wr ∧ HO wr 9 1 A1 k c1 (cellsOf (namesD (K.take k))) ∧ NewA w A1) (fun _ iv _ => n - (intOf iv).toNat)
  case atStart => exact ⟨0, none, 0, Nat.zero_le _, rfl, rfl, Nat.le_refl _, stepN, hcell0, newA_none _⟩
  case round =>
    clear hcell0
    obtain ⟨k, A1, c1, hk, rfl, rfl, hkc, st, hO, hA1⟩ := hrel
    have nr : Nw w wr := ⟨st.chg⟩
    have hrA : HR wr A (cellsOf K) := ⟨HRR.out.later st.chg⟩
    by_cases hlt : k < n
    · have hltI : (k : Int) < n := by omega
      have hkl : k < K.length := by rw [HL.out]; exact hlt
      have hLL : K.length = n := HL.out
      have hsz : (RowC.enc (gt K k)).toArray.size = 5 := rfl
      have hon := enc_one (gt K k)
      have kb1 := run_str1T (gt K k).l
      have HNX : Hid (namesD (K.take (k + 1)) = namesD (K.take k) ++ [(gt K k).l]) := Lib.hid (namesD_take K k hkl)
      go_wp2_with (first | ((with_reducible apply (stop_dst (dst := some 15))); (try simp only [Act.put, sA, sB, sC]); ((with_reducible apply (wpl_bslice (dst := some 15))); (exact kb1 _); intro zb wb _ _ _)) | ((with_reducible apply (wpl_appendR (α := Str))); (exact rfl); (exact rfl); infer_instance; infer_instance; (exact HB.cells inferInstance); (exact rfl); (exact rfl); omega; (decide); (decide); intro A' c' wa _ _ _ hcap) | ((with_reducible apply (wpl_alloc (dst := some 5))); intro z5 wz5 _ _ _) | ((with_reducible apply wpl_loadcellN); (exact rfl); infer_instance; (exact rfl)) | ((with_reducible apply wpl_storerow); (exact rfl); (exact rfl); infer_instance; infer_instance; (first | (with_reducible assumption) | (with_reducible exact H32.size _) | (with_reducible exact enc_sz _ rfl) | kernel_rfl); (first | (with_reducible assumption) | (with_reducible exact H32.size _) | (with_reducible exact enc_sz _ rfl) | kernel_rfl); (first | (with_reducible exact u8s_one _) | (with_reducible assumption) | (with_reducible exact enc_one _) | kernel_rfl); intro ws _ _) | ((with_reducible apply (wpl_indexE (α := DeleR) (t := 62))); (exact rfl); (exact rfl); infer_instance; infer_instance; (first | (with_reducible assumption) | omega | (focus (simp; done)) | (focus (simp; omega; done)) | decide); (exact rfl); (decide); (first | (with_reducible assumption) | omega | (focus (simp; done)) | (focus (simp; omega; done)) | decide)) | ((with_reducible apply (wpl_loadE (α := DeleR) (t := 115))); infer_instance; (exact rfl); infer_instance; (exact rfl); (decide); (first | (with_reducible assumption) | omega | (focus (simp; done)) | (focus (simp; omega; done)) | decide)))
      have hcA : Chg (rowOf A1) wb wa := (inferInstance : Ch (rowOf A1) wb wa).out
      have nb : Nw wr wb := inferInstance
      refine ⟨⟨k + 1, A', c', by omega, by go_num, rfl, hcap, ⟨?_⟩, ?_, newA_grew inferInstance hA1 (Nat.le_trans st.chg.size nb.out.size)⟩, by simp [intOf]; omega⟩
      · exact (st.chg.trans nb.out (fun _ _ h => h)).trans hcA (fun x hx ⟨ad, e, h⟩ => by have := hA1.out ad e; omega)
      · rw [HNX.out]; infer_instance
    · have hltI : ¬ (k : Int) < n := by omega
      have hkn : k = n := by omega
      have HK : Hid (namesD (K.take k) = namesD K) := Lib.hid (by rw [List.take_of_length_le (by have := HL.out; omega)])
      subst hkn
      clear hrA
      go_wp2_with fail
      go_ret
      refine ⟨A1, c1, rfl, hkc, ?_, st⟩
      rw [← HK.out]
      exact ⟨hO.out.rd⟩
end Go.Proofs.YtgjnjhhhbkidbaaGreat
end
