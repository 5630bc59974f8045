/- RlR -/
import Derived.Test.YtgjnjhhhbkidbaaGreatUbRlP
open Go Go.RowKit
namespace Go.Proofs.YtgjnjhhhbkidbaaGreat
structure AcR where
  kind : Int
  t : TargetR
  now : Int
  life : Int
instance rowCAcR : RowC AcR := ⟨40, fun k => .int .i64 k.kind :: (RowC.enc k.t ++ [.int .i64 k.now, .int .i64 k.life]), fun k => by
  have h : (RowC.enc k.t).length = 37 := RowC.len k.t
  rw [List.length_cons, List.length_append, h]
  rfl, fun k u hu => by
  rcases List.mem_cons.1 hu with rfl | hu
  · rfl
  rcases List.mem_append.1 hu with hu | hu
  · exact RowC.one k.t u hu
  · simp only [List.mem_cons, List.not_mem_nil, or_false] at hu
    rcases hu with rfl | rfl <;> rfl, ⟨0, RowC.zero, 0, 0⟩⟩
theorem ac_tn (r : AcR) (i : Nat) (v : Value) (h : nth (RowC.enc r.t) i = some v) (hi : i < 37) : nth (RowC.enc r) (i + 1) = some v := by
  have hl : (RowC.enc r.t).length = 37 := RowC.len r.t
  rw [← nth_get] at h ⊢
  show (Value.int .i64 r.kind :: (RowC.enc r.t ++ [.int .i64 r.now, .int .i64 r.life]))[i + 1]? = _
  rw [List.getElem?_cons_succ, List.getElem?_append_left (by rw [hl]; exact hi)]
  exact h
theorem ac_1 (r : AcR) : nth (RowC.enc r) 1 = some (.string (strL r.t.l)) := ac_tn r 0 _ (tgc_0 _) (by decide)
theorem ac_35 (r : AcR) : nth (RowC.enc r) 35 = some (.string (strL r.t.hw)) := ac_tn r 34 _ (tgc_34 _) (by decide)
theorem ac_37 (r : AcR) : nth (RowC.enc r) 37 = some (.string (strL r.t.ecu)) := ac_tn r 36 _ (tgc_36 _) (by decide)
theorem ac_t (r : AcR) : ((RowC.enc r).drop 1).take 37 = RowC.enc r.t := by
  show (RowC.enc r.t ++ [Value.int .i64 r.now, Value.int .i64 r.life]).take 37 = _
  exact List.take_left' (RowC.len r.t)
def zeroAc : Array Value := (#[.int .i64 0] : Array Value) ++ zeroTg ++ (#[.int .i64 0, .int .i64 0] : Array Value)
instance elemAcR : ElemT Tryz.prog 47 50 40 120 (.agg zeroAc) := ⟨⟨Tryz.underlying47, by kernel_rfl, by kernel_rfl, by decide⟩⟩
set_option maxRecDepth 100000 in
set_option maxHeartbeats 3200000 in
theorem rpLong_calls {A : Option Addr} {n c : Nat} {P : List AcR} {w : World} [hr : HR w A (cellsOf P)] (hl : P.length = n) (hn9 : n ≤ 9223372036854775807) :
    Calls Tryz.prog 16 #[.slice A n c] w fun e w' => (e = .returned (.bool true) ∨ e = .returned (.bool false)) ∧ Step nowhere w w' := by
  have HRR := Lib.hid hr.out
  go_enter Tryz.func16, Tryz.ntmps16
  go_wp2_with fail
  go_loopw [3, 4] (fun nv iv wr => ∃ (k : Nat) (z : Int), k ≤ n ∧ iv = .int .i64 (k : Int) ∧ nv = .int .i64 z ∧ Step nowhere w wr) (fun _ iv _ => n - (intOf iv).toNat)
  case atStart => exact ⟨0, 0, Nat.zero_le _, rfl, rfl, stepN⟩
  case round =>
    obtain ⟨k, z, hk, rfl, rfl, st⟩ := hrel
    have nr : Nw w wr := ⟨st.chg⟩
    have hrw : HR wr A (cellsOf P) := ⟨HRR.out.later st.chg⟩
    by_cases hlt : k < n
    · have hltI : (k : Int) < n := by omega
      have hkl : k < P.length := by omega
      by_cases h24 : k < 24
      · have h24I : (k : Int) < 24 := by omega
        go_wp2_with fail
        refine wp_region_N (nowhere) (by kernel_rfl) (fun wd _ _ => ?_)
        refine' takeH (i := 0) (v := _) rfl (by kernel_rfl) (by kernel_rfl) (by kernel_rfl) (fun _ _ _ h => h) (yields_of (by rfl) (fun w' _ => ?_)) inferInstance ?_
        rotate_left
        · (go_simp; try with_reducible rfl)
        try simp only [Act.put, sA]; try simp only [sB, sC]
        refine' takeH (i := 1) (v := _) rfl (by kernel_rfl) (by kernel_rfl) (by kernel_rfl) (fun _ _ _ h => h) (yields_of (by rfl) (fun w' _ => ?_)) inferInstance ?_
        rotate_left
        · (go_simp; try with_reducible rfl)
        try simp only [Act.put, sA]; try simp only [sB, sC]
        refine' takeH (i := 2) (v := _) rfl (by kernel_rfl) (by kernel_rfl) (by kernel_rfl) (fun _ _ _ h => h) (yields_of (by rfl) (fun w' _ => ?_)) inferInstance ?_
        rotate_left
        · (go_simp; try with_reducible rfl)
        try simp only [Act.put, sA]; try simp only [sB, sC]
        refine' takeH (i := 3) (v := _) rfl (by kernel_rfl) (by kernel_rfl) (by kernel_rfl) (fun _ _ _ h => h) (yields_of (by rfl) (fun w' _ => ?_)) inferInstance ?_
        rotate_left
        · (go_simp; try with_reducible rfl)
        try simp only [Act.put, sA]; try simp only [sB, sC]
        refine' takeH (i := 4) (v := _) rfl (by kernel_rfl) (by kernel_rfl) (by kernel_rfl) (fun _ _ _ h => h) (yields_of (by rfl) (fun w' _ => ?_)) inferInstance ?_
        rotate_left
        · ((with_reducible apply (ev_indexE (α := AcR) (t := 47))); (exact rfl); (exact rfl); infer_instance; infer_instance; (first | (with_reducible assumption) | omega | (focus (simp; done)) | (focus (simp; omega; done)) | decide); (exact rfl); (decide); (first | (with_reducible assumption) | omega | (focus (simp; done)) | (focus (simp; omega; done)) | decide))
        try simp only [Act.put, sA]; try simp only [sB, sC]
        refine' takeH (i := 5) (v := _) rfl (by kernel_rfl) (by kernel_rfl) (by kernel_rfl) (fun _ _ _ h => h) (yields_of (by rfl) (fun w' _ => ?_)) inferInstance ?_
        rotate_left
        · ((with_reducible apply (ev_fieldE (t := 50))); (exact Tryz.underlying50); (exact rfl); (kernel_rfl); (exact rfl); infer_instance; (exact cells_pos (by decide) (by omega)))
        try simp only [Act.put, sA]; try simp only [sB, sC]
        refine' takeH (i := 6) (v := _) rfl (by kernel_rfl) (by kernel_rfl) (by kernel_rfl) (fun _ _ _ h => h) (yields_of (by rfl) (fun w' _ => ?_)) inferInstance ?_
        rotate_left
        · ((with_reducible apply (ev_fieldE (t := 42))); (exact Tryz.underlying42); (exact rfl); (kernel_rfl); (exact rfl); infer_instance; (exact cells_pos (by decide) (by omega)))
        try simp only [Act.put, sA]; try simp only [sB, sC]
        refine' takeH (i := 7) (v := _) rfl (by kernel_rfl) (by kernel_rfl) (by kernel_rfl) (fun _ _ _ h => h) (yields_of (by rfl) (fun w' _ => ?_)) inferInstance ?_
        rotate_left
        · ((with_reducible apply (ev_loadF (α := AcR) (k := k) (j := 1) (s := 40))); infer_instance; (exact rfl); infer_instance; (exact rfl); (exact hkl); (exact ac_1 _))
        try simp only [Act.put, sA]; try simp only [sB, sC]
        refine' takeH (i := 8) (v := _) rfl (by kernel_rfl) (by kernel_rfl) (by kernel_rfl) (fun _ _ _ h => h) (yields_of (by rfl) (fun w' _ => ?_)) inferInstance ?_
        rotate_left
        · (go_simp; try with_reducible rfl)
        try simp only [Act.put, sA]; try simp only [sB, sC]
        refine' takeH (i := 9) (v := _) rfl (by kernel_rfl) (by kernel_rfl) (by kernel_rfl) (fun _ _ _ h => h) (yields_of (by rfl) (fun w' _ => ?_)) inferInstance ?_
        rotate_left
        · (go_simp; try with_reducible rfl)
        try simp only [Act.put, sA]; try simp only [sB, sC]
        refine' takeH (i := 10) (v := _) rfl (by kernel_rfl) (by kernel_rfl) (by kernel_rfl) (fun _ _ _ h => h) (yields_of (by rfl) (fun w' _ => ?_)) inferInstance ?_
        rotate_left
        · (go_simp; try with_reducible rfl)
        try simp only [Act.put, sA]; try simp only [sB, sC]
        refine' takeH (i := 11) (v := _) rfl (by kernel_rfl) (by kernel_rfl) (by kernel_rfl) (fun _ _ _ h => h) (yields_of (by rfl) (fun w' _ => ?_)) inferInstance ?_
        rotate_left
        · (go_simp; try with_reducible rfl)
        try simp only [Act.put, sA]; try simp only [sB, sC]
        refine' takeH (i := 12) (v := _) rfl (by kernel_rfl) (by kernel_rfl) (by kernel_rfl) (fun _ _ _ h => h) (yields_of (by rfl) (fun w' _ => ?_)) inferInstance ?_
        rotate_left
        · ((with_reducible apply (ev_indexE (α := AcR) (t := 47))); (exact rfl); (exact rfl); infer_instance; infer_instance; (first | (with_reducible assumption) | omega | (focus (simp; done)) | (focus (simp; omega; done)) | decide); (exact rfl); (decide); (first | (with_reducible assumption) | omega | (focus (simp; done)) | (focus (simp; omega; done)) | decide))
        try simp only [Act.put, sA]; try simp only [sB, sC]
        refine' takeH (i := 13) (v := _) rfl (by kernel_rfl) (by kernel_rfl) (by kernel_rfl) (fun _ _ _ h => h) (yields_of (by rfl) (fun w' _ => ?_)) inferInstance ?_
        rotate_left
        · ((with_reducible apply (ev_fieldE (t := 50))); (exact Tryz.underlying50); (exact rfl); (kernel_rfl); (exact rfl); infer_instance; (exact cells_pos (by decide) (by omega)))
        try simp only [Act.put, sA]; try simp only [sB, sC]
        refine' takeH (i := 14) (v := _) rfl (by kernel_rfl) (by kernel_rfl) (by kernel_rfl) (fun _ _ _ h => h) (yields_of (by rfl) (fun w' _ => ?_)) inferInstance ?_
        rotate_left
        · ((with_reducible apply (ev_fieldE (t := 42))); (exact Tryz.underlying42); (exact rfl); (kernel_rfl); (exact rfl); infer_instance; (exact cells_pos (by decide) (by omega)))
        try simp only [Act.put, sA]; try simp only [sB, sC]
        refine' takeH (i := 15) (v := _) rfl (by kernel_rfl) (by kernel_rfl) (by kernel_rfl) (fun _ _ _ h => h) (yields_of (by rfl) (fun w' _ => ?_)) inferInstance ?_
        rotate_left
        · ((with_reducible apply (ev_loadF (α := AcR) (k := k) (j := 35) (s := 40))); infer_instance; (exact rfl); infer_instance; (exact rfl); (exact hkl); (exact ac_35 _))
        try simp only [Act.put, sA]; try simp only [sB, sC]
        refine' takeH (i := 16) (v := _) rfl (by kernel_rfl) (by kernel_rfl) (by kernel_rfl) (fun _ _ _ h => h) (yields_of (by rfl) (fun w' _ => ?_)) inferInstance ?_
        rotate_left
        · (go_simp; try with_reducible rfl)
        try simp only [Act.put, sA]; try simp only [sB, sC]
        refine' takeH (i := 17) (v := _) rfl (by kernel_rfl) (by kernel_rfl) (by kernel_rfl) (fun _ _ _ h => h) (yields_of (by rfl) (fun w' _ => ?_)) inferInstance ?_
        rotate_left
        · (go_simp; try with_reducible rfl)
        try simp only [Act.put, sA]; try simp only [sB, sC]
        refine' takeH (i := 18) (v := _) rfl (by kernel_rfl) (by kernel_rfl) (by kernel_rfl) (fun _ _ _ h => h) (yields_of (by rfl) (fun w' _ => ?_)) inferInstance ?_
        rotate_left
        · (go_simp; try with_reducible rfl)
        try simp only [Act.put, sA]; try simp only [sB, sC]
        refine' takeH (i := 19) (v := _) rfl (by kernel_rfl) (by kernel_rfl) (by kernel_rfl) (fun _ _ _ h => h) (yields_of (by rfl) (fun w' _ => ?_)) inferInstance ?_
        rotate_left
        · (go_simp; try with_reducible rfl)
        try simp only [Act.put, sA]; try simp only [sB, sC]
        refine' takeH (i := 20) (v := _) rfl (by kernel_rfl) (by kernel_rfl) (by kernel_rfl) (fun _ _ _ h => h) (yields_of (by rfl) (fun w' _ => ?_)) inferInstance ?_
        rotate_left
        · ((with_reducible apply (ev_indexE (α := AcR) (t := 47))); (exact rfl); (exact rfl); infer_instance; infer_instance; (first | (with_reducible assumption) | omega | (focus (simp; done)) | (focus (simp; omega; done)) | decide); (exact rfl); (decide); (first | (with_reducible assumption) | omega | (focus (simp; done)) | (focus (simp; omega; done)) | decide))
        try simp only [Act.put, sA]; try simp only [sB, sC]
        refine' takeH (i := 21) (v := _) rfl (by kernel_rfl) (by kernel_rfl) (by kernel_rfl) (fun _ _ _ h => h) (yields_of (by rfl) (fun w' _ => ?_)) inferInstance ?_
        rotate_left
        · ((with_reducible apply (ev_fieldE (t := 50))); (exact Tryz.underlying50); (exact rfl); (kernel_rfl); (exact rfl); infer_instance; (exact cells_pos (by decide) (by omega)))
        try simp only [Act.put, sA]; try simp only [sB, sC]
        refine' takeH (i := 22) (v := _) rfl (by kernel_rfl) (by kernel_rfl) (by kernel_rfl) (fun _ _ _ h => h) (yields_of (by rfl) (fun w' _ => ?_)) inferInstance ?_
        rotate_left
        · ((with_reducible apply (ev_fieldE (t := 42))); (exact Tryz.underlying42); (exact rfl); (kernel_rfl); (exact rfl); infer_instance; (exact cells_pos (by decide) (by omega)))
        try simp only [Act.put, sA]; try simp only [sB, sC]
        refine' takeH (i := 23) (v := _) rfl (by kernel_rfl) (by kernel_rfl) (by kernel_rfl) (fun _ _ _ h => h) (yields_of (by rfl) (fun w' _ => ?_)) inferInstance ?_
        rotate_left
        · ((with_reducible apply (ev_loadF (α := AcR) (k := k) (j := 37) (s := 40))); infer_instance; (exact rfl); infer_instance; (exact rfl); (exact hkl); (exact ac_37 _))
        try simp only [Act.put, sA]; try simp only [sB, sC]
        refine' takeH (i := 24) (v := _) rfl (by kernel_rfl) (by kernel_rfl) (by kernel_rfl) (fun _ _ _ h => h) (yields_of (by rfl) (fun w' _ => ?_)) inferInstance ?_
        rotate_left
        · (go_simp; try with_reducible rfl)
        try simp only [Act.put, sA]; try simp only [sB, sC]
        refine' takeH (i := 25) (v := _) rfl (by kernel_rfl) (by kernel_rfl) (by kernel_rfl) (fun _ _ _ h => h) (yields_of (by rfl) (fun w' _ => ?_)) inferInstance ?_
        rotate_left
        · (go_simp; try with_reducible rfl)
        try simp only [Act.put, sA]; try simp only [sB, sC]
        refine' takeH (i := 26) (v := _) rfl (by kernel_rfl) (by kernel_rfl) (by kernel_rfl) (fun _ _ _ h => h) (yields_of (by rfl) (fun w' _ => ?_)) inferInstance ?_
        rotate_left
        · (go_simp; try with_reducible rfl)
        try simp only [Act.put, sA]; try simp only [sB, sC]
        refine wpAnyH_done (by kernel_rfl) ?_ _
        go_wp2_with fail
        all_goals first
          | exact ⟨⟨k + 1, _, by omega, by go_num, rfl, stepN⟩, by simp [intOf]; omega⟩
          | (go_ret; exact ⟨.inl rfl, stepN⟩)
      · have h24I : ¬ (k : Int) < 24 := by omega
        go_wp2_with fail
        go_ret
        exact ⟨.inr rfl, stepN⟩
    · have hltI : ¬ (k : Int) < n := by omega
      go_wp2_with fail
      go_ret
      exact ⟨.inr rfl, stepN⟩
end Go.Proofs.YtgjnjhhhbkidbaaGreat
