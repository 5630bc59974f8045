/- OtP -/
import Derived.Test.YtcgbgeheiklhhaaGreatTfOtD
import Derived.Test.YtcgbgeheiklhhaaGreatTfBase
open Go Go.RowKit
namespace Go.Proofs.YtcgbgeheiklhhaaGreat
theorem iget_mem (l : List Int) (k : Nat) (h : k < l.length) : iget l k ∈ l := by
  simp [iget, List.getD_eq_getElem?_getD, List.getElem?_eq_getElem h]
theorem digitsS_len (xs : List UInt8) : (digitsS xs).length = 36 := by simp [digitsS, digs_len, lastD_len]
def publicS (seed : H32) (leaf : Int) : H32 := closedS (mapH (fun h i => walkS i 0 3 h) (secretsS seed leaf) 36)
def signS (seed : H32) (leaf : Int) (m : List UInt8) : List H32 := mapH (fun h i => walkS i 0 (iget (digitsS m) i) h) (secretsS seed leaf) 36
def recoverS (m : List UInt8) (l : List H32) : H32 := closedS (mapH (fun h i => walkS i (iget (digitsS m) i) 3 h) l 36)
instance : ZeroT Tryz.prog 115 (i64s (List.replicate 36 0)) := ⟨.agg (i64s (List.replicate 36 0)), fun _ => by kernel_rfl, rfl⟩
instance : RowT Tryz.prog 115 36 := ⟨by kernel_rfl, _, Tryz.underlying115, rfl⟩
set_option maxRecDepth 100000 in
set_option maxHeartbeats 800000 in
theorem public_calls (seed : H32) (leaf : Int) (w : World) :
    Calls Tryz.prog 62 #[.agg (u8s seed.l), .int .i64 leaf] w fun e w' => e = .returned (.agg (u8s (publicS seed leaf).l)) ∧ Step nowhere w w' := by
  go_enter Tryz.func62, Tryz.ntmps62
  go_wp2_with (first | ((with_reducible apply (wpl_box_agg (dst := some 2))); (exact rfl); intro zs wzs _ _ _) | ((with_reducible apply (wpl_alloc (dst := some 4))); intro zo wzo _ _ _) | ((with_reducible apply (wpl_alloc (dst := some 5))); intro zw wzw _ _ _) | ((with_reducible apply wpl_loadrow); (exact rfl); infer_instance; infer_instance; (first | (with_reducible assumption) | (with_reducible exact H32.size _) | kernel_rfl)))
  refine (secrets_calls seed leaf _).mono ?_
  rintro e w5 ⟨z, rfl, _, _, _⟩
  go_wp2_with fail
  refine (each_calls (l := secretsS seed leaf) (by simp [secretsS, mapH_len]) (Nat.le_refl _) 83 (fun _ _ => by kernel_rfl) #[.pointer (some ⟨zw, 0, none⟩)] #[] (fun h i => walkS i 0 3 h) (fun w' hw' h i hi => by
    have hs : Step nowhere _ w' := ⟨hw'.out⟩
    have e := toEnd_calls zw _ (List.replicate 36 0) rfl h i hi w'
    rw [iget_nots] at e
    exact e)).mono ?_
  rintro e w6 ⟨z2, rfl, _, _, _⟩
  go_wp2_with fail
  refine (closed_calls (l := mapH (fun h i => walkS i 0 3 h) (secretsS seed leaf) 36) (mapH_len _ _ _) (by decide)).mono ?_
  rintro e w7 ⟨rfl, _⟩
  go_wp2_with (first | ((with_reducible apply wpl_storerow); (exact rfl); (exact rfl); infer_instance; infer_instance; (first | (with_reducible assumption) | (with_reducible exact H32.size _) | kernel_rfl); (first | (with_reducible assumption) | (with_reducible exact H32.size _) | kernel_rfl); (first | (with_reducible exact u8s_one _) | (with_reducible assumption) | kernel_rfl); intro ws _ _))
  exact ret_row rfl rfl (n := 32) (H32.size _) rfl ⟨rfl, stepN⟩
theorem run_walker (ds : List Int) (hd : ds.length = 36) (w : World) : (Instr.build 115 #[(0, .agg (i64s ds))]).run Tryz.prog w = .ok (.agg (i64s ds)) w := by
  have hs : (i64s ds).size = 36 := by rw [i64s_size, hd]
  refine run_build_struct Tryz.underlying115 (zv := .agg (i64s (List.replicate 36 0))) (fun _ => by kernel_rfl) (places := #[(0, 36)]) (fun _ => by kernel_rfl) ?_ w
  show Instr.fill _ (i64s (List.replicate 36 0)) [(0, .agg (i64s ds))] = _
  rw [fill_step _ _ 0 (.agg (i64s ds)) [] (off := 0) (size := 36) rfl hs (by decide), lay_whole _ _ (by show (i64s ds).size = _; rw [hs]; rfl)]
  rfl
set_option maxRecDepth 100000 in
set_option maxHeartbeats 800000 in
theorem sign_calls {A : Option Addr} {n c : Nat} {m : List UInt8} (seed : H32) (leaf : Int) {w : World} [HR w A (bs m)] (hl : m.length = n) (hc : n ≤ c) (hn : n ≤ 100000) :
    Calls Tryz.prog 39 #[.agg (u8s seed.l), .int .i64 leaf, .slice A n c] w fun e w' => ∃ z, e = .returned (.slice (some ⟨z, 0, none⟩) 36 36) ∧ Step nowhere w w' ∧ NewA w (some ⟨z, 0, none⟩) ∧ HO w' 23 32 (some ⟨z, 0, none⟩) 36 36 (cellsOf (signS seed leaf m)) := by
  have hd := digitsS_len m
  have hsz : (i64s (digitsS m)).size = 36 := by rw [i64s_size, hd]
  have h1 := i64s_one (digitsS m)
  have kb := run_walker (digitsS m) hd
  go_enter Tryz.func39, Tryz.ntmps39
  go_wp2_with (first | ((with_reducible apply (wpl_box_agg (dst := some 3))); (exact rfl); intro zs wzs _ _ _))
  refine (digits_calls (xs := m) hl hc hn).mono ?_
  rintro e w4 ⟨rfl, _⟩
  go_wp2_with (first | ((with_reducible apply wpl_build); (exact kb _)) | ((with_reducible apply (wpl_alloc (dst := some 7))); intro zw wzw _ _ _) | ((with_reducible apply wpl_loadrow); (exact rfl); infer_instance; infer_instance; (first | (with_reducible assumption) | (with_reducible exact H32.size _) | kernel_rfl)) | ((with_reducible apply wpl_storerow); (exact rfl); (exact rfl); infer_instance; infer_instance; (first | (with_reducible assumption) | (with_reducible exact H32.size _) | kernel_rfl); (first | (with_reducible assumption) | (with_reducible exact H32.size _) | kernel_rfl); (first | (with_reducible exact u8s_one _) | (with_reducible assumption) | kernel_rfl); intro ws _ _))
  refine (secrets_calls seed leaf _).mono ?_
  rintro e w5 ⟨z, rfl, _, _, _⟩
  go_wp2_with fail
  refine (each_calls (l := secretsS seed leaf) (by simp [secretsS, mapH_len]) (Nat.le_refl _) 66 (fun _ _ => by kernel_rfl) #[.pointer (some ⟨zw, 0, none⟩)] #[] (fun h i => walkS i 0 (iget (digitsS m) i) h) (fun w' hw' h i hi => by
    have hs : Step nowhere _ w' := ⟨hw'.out⟩
    exact toDigit_calls zw _ (digitsS m) hd h i hi w')).mono ?_
  rintro e w6 ⟨z2, rfl, _, hA, _⟩
  go_wp2_with fail
  go_ret
  exact ⟨z2, rfl, stepN, hA.mono, inferInstance⟩
set_option maxRecDepth 100000 in
set_option maxHeartbeats 800000 in
theorem recoverW_calls {A B : Option Addr} {n c nl cl : Nat} {m : List UInt8} {l : List H32} {w : World} [HR w A (bs m)] [HR w B (cellsOf l)] (hl : m.length = n) (hc : n ≤ c) (hn : n ≤ 140737488351232) (hll : l.length = nl) :
    Calls Tryz.prog 101 #[.slice A n c, .slice B nl cl] w fun e w' => e = .returned (.tuple #[.agg (u8s (if nl = 36 then recoverS m l else zeroH).l), .bool (decide (nl = 36))]) ∧ Step nowhere w w' := by
  have hd := digitsS_len m
  have hsz : (i64s (digitsS m)).size = 36 := by rw [i64s_size, hd]
  have h1 := i64s_one (digitsS m)
  have kb := run_walker (digitsS m) hd
  by_cases h36 : nl = 36
  · have hb : ((nl : Int) != 36) = false := by simp; omega
    rw [if_pos h36, decide_eq_true h36]
    have hge36 : 36 ≤ nl := by omega
    clear h36
    go_enter Tryz.func101, Tryz.ntmps101
    go_wp2_with (first | ((with_reducible apply (wpl_alloc (dst := some 4))); intro zo wzo _ _ _))
    refine (digitsW_calls (xs := m) hl hc hn).mono ?_
    rintro e w4 ⟨rfl, _⟩
    go_wp2_with (first | ((with_reducible apply wpl_build); (exact kb _)) | ((with_reducible apply (wpl_alloc (dst := some 6))); intro zw wzw _ _ _) | ((with_reducible apply wpl_storerow); (exact rfl); (exact rfl); infer_instance; infer_instance; (first | (with_reducible assumption) | (with_reducible exact H32.size _) | kernel_rfl); (first | (with_reducible assumption) | (with_reducible exact H32.size _) | kernel_rfl); (first | (with_reducible exact u8s_one _) | (with_reducible assumption) | kernel_rfl); intro ws _ _))
    refine (each_calls (l := l) hll hge36 83 (fun _ _ => by kernel_rfl) #[.pointer (some ⟨zw, 0, none⟩)] #[] (fun h i => walkS i (iget (digitsS m) i) 3 h) (fun w' hw' h i hi => by
      have hs : Step nowhere _ w' := ⟨hw'.out⟩
      exact toEnd_calls zw _ (digitsS m) hd h i hi w')).mono ?_
    rintro e w6 ⟨z2, rfl, _, hA, _⟩
    go_wp2_with fail
    refine (closed_calls (l := mapH (fun h i => walkS i (iget (digitsS m) i) 3 h) l 36) (mapH_len _ _ _) (by decide)).mono ?_
    rintro e w7 ⟨rfl, _⟩
    go_wp2_with (first | ((with_reducible apply wpl_storerow); (exact rfl); (exact rfl); infer_instance; infer_instance; (first | (with_reducible assumption) | (with_reducible exact H32.size _) | kernel_rfl); (first | (with_reducible assumption) | (with_reducible exact H32.size _) | kernel_rfl); (first | (with_reducible exact u8s_one _) | (with_reducible assumption) | kernel_rfl); intro ws _ _))
    refine ret_row2 (g := zo) (b := true) rfl rfl (n := 32) (H32.size (recoverS m l)) rfl ?_ rfl
    exact ⟨rfl, stepN⟩
  · have hb : ((nl : Int) != 36) = true := by simp; omega
    have kb0 : ∀ w, (Instr.build 23 #[]).run Tryz.prog w = .ok (.agg (u8s zeroH.l)) w := fun _ => by kernel_rfl
    rw [if_neg h36, decide_eq_false h36]
    go_enter Tryz.func101, Tryz.ntmps101
    go_wp2_with (first | ((with_reducible apply wpl_build); (exact kb0 _)) | ((with_reducible apply (wpl_alloc (dst := some 4))); intro zo wzo _ _ _) | ((with_reducible apply wpl_storerow); (exact rfl); (exact rfl); infer_instance; infer_instance; (first | (with_reducible assumption) | (with_reducible exact H32.size _) | kernel_rfl); (first | (with_reducible assumption) | (with_reducible exact H32.size _) | kernel_rfl); (first | (with_reducible exact u8s_one _) | (with_reducible assumption) | kernel_rfl); intro ws _ _))
    refine ret_row2 (g := zo) (b := false) rfl rfl (n := 32) (H32.size zeroH) rfl ?_ rfl
    exact ⟨rfl, stepN⟩
theorem hget_secrets (seed : H32) (leaf : Int) (k : Nat) (h : k < 36) : hget (secretsS seed leaf) k = secretS seed leaf k := by
  simp [secretsS, mapH, hget, List.getD_eq_getElem?_getD, h]
end Go.Proofs.YtcgbgeheiklhhaaGreat
