/- FwM, RlP -/
import Derived.Test.YtgjnjhhhbkidbaaGreatUbTgH
import Derived.Test.YtgjnjhhhbkidbaaGreatUbWyQ
import Derived.Test.YtgjnjhhhbkidbaaGreatUbRoK
import Derived.Test.YtgjnjhhhbkidbaaGreatUbRlU
section
open Go Go.RowKit
namespace Go.Proofs.YtgjnjhhhbkidbaaGreat
def tgBe (a b : TargetR) : Bool := ((strL a.l).toList == (strL b.l).toList) && ((a.size == b.size) && (decide (a.sum = b.sum) && (((strL a.hw).toList == (strL b.hw).toList) && ((a.ctr == b.ctr) && ((strL a.ecu).toList == (strL b.ecu).toList)))))
theorem tg_sumT (a : TargetR) : (((RowC.enc a).toArray.toList.drop 2).take 32) = (u8s a.sum.l).toList := by
  show ((RowC.enc a).drop 2).take 32 = _
  rw [tgc_sum]
  simp [u8s]
set_option maxRecDepth 100000 in
set_option maxHeartbeats 1600000 in
theorem neqTarget (a b : TargetR) (w : World) : (binOp .neq 42 (.agg (RowC.enc a).toArray) (.agg (RowC.enc b).toArray)).run Tryz.prog w = .ok (.bool (!tgBe a b)) w := by
  rw [run_neq_struct]
  have key : (Op.equalIn (9999 + 1) 42 (.agg (RowC.enc a).toArray) (.agg (RowC.enc b).toArray)).run Tryz.prog w = .ok (tgBe a b) w := by
    rw [run_equalIn_struct w 9999 42 _ _ (by kernel_rfl) (by kernel_rfl)]
    rw [Program.fieldsOf, Tryz.underlying42]
    unfold tgBe
    refine eqFW_cons (by decide) (partW_cell (t := 9) (tgc_0 _) w) (partW_cell (t := 9) (tgc_0 _) w) (run_equalIn_string w 9998 9 _ _ Tryz.underlying9) ?_
    refine eqFW_cons (by decide) (partW_cell (t := 3) (tgc_1 _) w) (partW_cell (t := 3) (tgc_1 _) w) (run_equalIn_int w 9998 3 _ _ _ _ Tryz.underlying3) ?_
    refine eqFW_cons (by decide) (partW_row (t := 23) (n := 32) (tg_sumT a) w) (partW_row (t := 23) (n := 32) (tg_sumT b) w) ?_ ?_
    · rw [← beq_hashW]
      exact run_equalIn_bytes (P := Tryz.prog) w 9997 23 5 32 Tryz.underlying23 Tryz.underlying5 Tryz.sizeOf5 a.sum.l b.sum.l a.sum.len b.sum.len
    refine eqFW_cons (by decide) (partW_cell (t := 9) (tgc_34 _) w) (partW_cell (t := 9) (tgc_34 _) w) (run_equalIn_string w 9998 9 _ _ Tryz.underlying9) ?_
    refine eqFW_cons (by decide) (partW_cell (t := 3) (tgc_35 _) w) (partW_cell (t := 3) (tgc_35 _) w) (run_equalIn_int w 9998 3 _ _ _ _ Tryz.underlying3) ?_
    rw [← Bool.and_true ((strL a.ecu).toList == (strL b.ecu).toList)]
    refine eqFW_cons (by decide) (partW_cell (t := 9) (tgc_36 _) w) (partW_cell (t := 9) (tgc_36 _) w) (run_equalIn_string w 9998 9 _ _ Tryz.underlying9) ?_
    rfl
  show ((Op.equalIn 10000 42 (.agg (RowC.enc a).toArray) (.agg (RowC.enc b).toArray)).run Tryz.prog w).andThen _ = _
  rw [show (Op.equalIn 10000 42 (.agg (RowC.enc a).toArray) (.agg (RowC.enc b).toArray)).run Tryz.prog w = .ok (tgBe a b) w from key]
  rfl
theorem tgBe_self (a : TargetR) : tgBe a a = true := by simp [tgBe]
set_option maxRecDepth 100000 in
set_option maxHeartbeats 3200000 in
theorem sameList_calls {A B : Option Addr} {n c c2 : Nat} {P : List TargetR} {w : World} [hr : HR w A (cellsOf P)] [hr2 : HR w B (cellsOf P)] (hl : P.length = n) (hm : n ≤ 1000000000) :
    Calls Tryz.prog 18 #[.slice A n c, .slice B n c2] w fun e w' => e = .returned (.bool true) ∧ Step nowhere w w' := by
  have hnq : ∀ (a : TargetR) (w : World), (binOp .neq 42 (.agg (RowC.enc a).toArray) (.agg (RowC.enc a).toArray)).run Tryz.prog w = .ok (.bool false) w := fun a w => by rw [neqTarget, tgBe_self]; rfl
  have q3 : ((n : Int) != (n : Int)) = false := by simp
  go_enter Tryz.func18, Tryz.ntmps18
  go_wp2_with fail
  go_loopw [5] (fun iv wr => ∃ k : Nat, k ≤ n ∧ iv = .int .i64 (k : Int) ∧ Step nowhere w wr) (fun iv _ => n - (intOf iv).toNat)
  case atStart => exact ⟨0, Nat.zero_le _, rfl, stepN⟩
  case round =>
    obtain ⟨k, hk, rfl, st⟩ := hrel
    have nr : Nw w wr := ⟨st.chg⟩
    have hra : HR wr A (cellsOf P) := inferInstance
    have hrb : HR wr B (cellsOf P) := inferInstance
    by_cases hlt : k < n
    · have hltI : (k : Int) < n := by omega
      have hkl : k < P.length := by omega
      go_wp2_with fail
      refine wp_region_N (nowhere) (by kernel_rfl) (fun wd _ _ => ?_)
      refine' takeH (i := 0) (v := _) rfl (by kernel_rfl) (by kernel_rfl) (by kernel_rfl) (fun _ _ _ h => h) (yields_of (by rfl) (fun w' _ => ?_)) inferInstance ?_
      rotate_left
      · (go_simp; try with_reducible rfl)
      try simp only [Act.put, sA]; try simp only [sB, sC]
      refine' takeH (i := 1) (v := _) rfl (by kernel_rfl) (by kernel_rfl) (by kernel_rfl) (fun _ _ _ h => h) (yields_of (by rfl) (fun w' _ => ?_)) inferInstance ?_
      rotate_left
      · (go_simp; try with_reducible rfl)
      try simp only [Act.put, sA]; try simp only [sB, sC]
      refine' takeH (i := 2) (v := _) rfl (by kernel_rfl) (by kernel_rfl) (by kernel_rfl) (fun _ _ _ h => h) (yields_of (by rfl) (fun w' _ => ?_)) inferInstance ?_
      rotate_left
      · ((with_reducible apply (ev_indexE (α := TargetR) (t := 40))); (exact rfl); (exact rfl); infer_instance; infer_instance; (first | (with_reducible assumption) | omega | (focus (simp; done)) | (focus (simp; omega; done)) | decide); (exact rfl); (decide); (first | (with_reducible assumption) | omega | (focus (simp; done)) | (focus (simp; omega; done)) | decide))
      try simp only [Act.put, sA]; try simp only [sB, sC]
      refine' takeH (i := 3) (v := _) rfl (by kernel_rfl) (by kernel_rfl) (by kernel_rfl) (fun _ _ _ h => h) (yields_of (by rfl) (fun w' _ => ?_)) inferInstance ?_
      rotate_left
      · ((with_reducible apply (ev_loadE (α := TargetR) (t := 42))); infer_instance; (exact rfl); infer_instance; (exact rfl); (decide); (first | (with_reducible assumption) | omega | (focus (simp; done)) | (focus (simp; omega; done)) | decide))
      try simp only [Act.put, sA]; try simp only [sB, sC]
      refine' takeH (i := 4) (v := _) rfl (by kernel_rfl) (by kernel_rfl) (by kernel_rfl) (fun _ _ _ h => h) (yields_of (by rfl) (fun w' _ => ?_)) inferInstance ?_
      rotate_left
      · (go_simp; try with_reducible rfl)
      try simp only [Act.put, sA]; try simp only [sB, sC]
      refine' takeH (i := 5) (v := _) rfl (by kernel_rfl) (by kernel_rfl) (by kernel_rfl) (fun _ _ _ h => h) (yields_of (by rfl) (fun w' _ => ?_)) inferInstance ?_
      rotate_left
      · (go_simp; try with_reducible rfl)
      try simp only [Act.put, sA]; try simp only [sB, sC]
      refine' takeH (i := 6) (v := _) rfl (by kernel_rfl) (by kernel_rfl) (by kernel_rfl) (fun _ _ _ h => h) (yields_of (by rfl) (fun w' _ => ?_)) inferInstance ?_
      rotate_left
      · ((with_reducible apply (ev_indexE (α := TargetR) (t := 40))); (exact rfl); (exact rfl); infer_instance; infer_instance; (first | (with_reducible assumption) | omega | (focus (simp; done)) | (focus (simp; omega; done)) | decide); (exact rfl); (decide); (first | (with_reducible assumption) | omega | (focus (simp; done)) | (focus (simp; omega; done)) | decide))
      try simp only [Act.put, sA]; try simp only [sB, sC]
      refine' takeH (i := 7) (v := _) rfl (by kernel_rfl) (by kernel_rfl) (by kernel_rfl) (fun _ _ _ h => h) (yields_of (by rfl) (fun w' _ => ?_)) inferInstance ?_
      rotate_left
      · ((with_reducible apply (ev_loadE (α := TargetR) (t := 42))); infer_instance; (exact rfl); infer_instance; (exact rfl); (decide); (first | (with_reducible assumption) | omega | (focus (simp; done)) | (focus (simp; omega; done)) | decide))
      try simp only [Act.put, sA]; try simp only [sB, sC]
      refine' takeH (i := 8) (v := _) rfl (by kernel_rfl) (by kernel_rfl) (by kernel_rfl) (fun _ _ _ h => h) (yields_of (by rfl) (fun w' _ => ?_)) inferInstance ?_
      rotate_left
      · (go_simp; try with_reducible rfl)
      try simp only [Act.put, sA]; try simp only [sB, sC]
      refine wpAnyH_done (by kernel_rfl) ?_ _
      go_wp2_with fail
      exact ⟨⟨k + 1, by omega, by go_num, stepN⟩, by simp [intOf]; omega⟩
    · have hltI : ¬ (k : Int) < n := by omega
      go_wp2_with fail
      go_ret
      exact ⟨rfl, stepN⟩
end Go.Proofs.YtgjnjhhhbkidbaaGreat
end
section
open Go Go.RowKit
namespace Go.Proofs.YtgjnjhhhbkidbaaGreat
/-- a list of targets as a repo has it -/
structure TOk (T : List TargetR) : Prop where
  rise : RiseR T
  may : ∀ t ∈ T, mayR t = true
  len : T.length ≤ 16
theorem TOk.nil : TOk [] := ⟨fun i j _ h => absurd h (Nat.not_lt_zero _), fun t h => (by cases h), Nat.zero_le _⟩
theorem pubT_ok {T : List TargetR} (h : TOk T) (t : TargetR) : TOk (pubT T t) := by
  have hp := plc_is (x := keyT t.l t.ecu) h.rise
  obtain ⟨k, hk⟩ : ∃ k, k = plc T (keyT t.l t.ecu) := ⟨_, rfl⟩
  unfold pubT
  rw [← hk] at hp ⊢
  unfold pubR
  cases hm : mayR t
  · exact h
  · cases hi : inR T (keyT t.l t.ecu) k
    · by_cases h16 : 16 ≤ T.length
      · rw [if_pos rfl, if_neg (by decide), if_pos h16]
        exact h
      · rw [if_pos rfl, if_neg (by decide), if_neg h16]
        refine ⟨insT_rise h.rise hp hi, fun x hx => ?_, ?_⟩
        · have hx' : x ∈ T.take k ++ t :: T.drop k := hx
          rcases List.mem_append.1 hx' with h1 | h1
          · exact h.may x (List.mem_of_mem_take h1)
          · rcases List.mem_cons.1 h1 with h1 | h1
            · rw [h1]; exact hm
            · exact h.may x (List.mem_of_mem_drop h1)
        · show (insT T k t).length ≤ 16
          rw [ins_len _ _ _ hp.1]
          omega
    · rw [if_pos rfl, if_pos rfl]
      obtain ⟨h1, h2⟩ := (inR_iff _ _ _).1 hi
      refine ⟨setT_rise h.rise h1 ⟨h2.1, h2.2⟩, fun x hx => ?_, ?_⟩
      · rcases List.mem_or_eq_of_mem_set hx with h3 | h3
        · exact h.may x h3
        · rw [h3]; exact hm
      · show (T.set k t).length ≤ 16
        rw [List.length_set]
        exact h.len
theorem remT_ok {T : List TargetR} (h : TOk T) (nm ecu : List UInt8) : TOk (remT T nm ecu) := by
  unfold remT
  obtain ⟨k, hk⟩ : ∃ k, k = plc T (keyT nm ecu) := ⟨_, rfl⟩
  rw [← hk]
  unfold remR
  cases hi : inR T (keyT nm ecu) k
  · exact h
  · rw [if_pos rfl]
    obtain ⟨h1, h2⟩ := (inR_iff _ _ _).1 hi
    have hl := del_len h1
    refine ⟨delT_rise h.rise h1, fun x hx => ?_, ?_⟩
    · have hx' : x ∈ T.take k ++ T.drop (k + 1) := hx
      rcases List.mem_append.1 hx' with h3 | h3
      · exact h.may x (List.mem_of_mem_take h3)
      · exact h.may x (List.mem_of_mem_drop h3)
    · show (delT T k).length ≤ 16
      have := h.len
      omega
/-- among the first is such a one -/
def thB (T : List TargetR) (t : TargetR) : Nat → Bool
  | 0 => false
  | k + 1 => thB T t k || tgBe (gt T k) t
end Go.Proofs.YtgjnjhhhbkidbaaGreat
end
