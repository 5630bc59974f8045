/- QmI, UnA, QmB, QmC, QmD -/
import Derived.Test.YtgjnjhhhbkidbaaGreatUcQmR
import Derived.Test.YtgjnjhhhbkidbaaGreatUcHashes
section
open Go Go.RowKit
namespace Go.Proofs.YtgjnjhhhbkidbaaGreat
def freshB (l : List H32) (i : Nat) : Nat → Bool
 | 0 => true
 | k + 1 => freshB l i k && !decide (hget l i = hget l k)
def allB (l : List H32) : Nat → Bool
 | 0 => true
 | i + 1 => allB l i && freshB l i i
theorem freshB_iff (l : List H32) (i : Nat) : ∀ k, freshB l i k = true ↔ ∀ j, j < k → hget l i ≠ hget l j
 | 0 => by simp [freshB]
 | k + 1 => by
  rw [freshB, Bool.and_eq_true, freshB_iff l i k]
  simp only [Bool.not_eq_true', decide_eq_false_iff_not]
  constructor
  · rintro ⟨h1, h2⟩ j hj
    by_cases hjk : j = k
    · subst hjk; exact h2
    · exact h1 j (by omega)
  · exact fun h => ⟨fun j hj => h j (by omega), h k (by omega)⟩
theorem allB_false (l : List H32) (i : Nat) (h : freshB l i i = false) : ∀ n, i < n → allB l n = false
 | 0, hn => by omega
 | n + 1, hn => by
  rw [allB]
  by_cases hin : i = n
  · subst hin; rw [h, Bool.and_false]
  · rw [allB_false l i h n (by omega), Bool.false_and]
theorem mem_take_iff (l : List H32) (i : Nat) (hi : i < l.length) : (hget l i ∈ l.take i) ↔ freshB l i i = false := by
 rw [← Bool.not_eq_true, freshB_iff, List.mem_iff_getElem]
 constructor
 · rintro ⟨j, hj, e⟩ h
   rw [List.length_take] at hj
   refine h j (by omega) ?_
   rw [← e]
   simp [hget, List.getD_eq_getElem?_getD, show j < l.length by omega]
 · intro h
   apply Classical.byContradiction
   intro hn
   refine h fun j hj e => hn ⟨j, by rw [List.length_take]; omega, ?_⟩
   rw [e]
   simp [hget, List.getD_eq_getElem?_getD, show j < l.length by omega]
set_option maxRecDepth 100000 in
set_option maxHeartbeats 1600000 in
theorem hindex_calls {A : Option Addr} {n c : Nat} {l : List H32} (x : H32) {w : World} [hr : HR w A (cellsOf l)] (hl : l.length = n) (hmax : n ≤ 1000000000) :
    Calls Tryz.prog 204 #[.slice A n c, .agg (u8s x.l)] w fun e w' => ∃ r : Int, e = .returned (.int .i64 r) ∧ (0 ≤ r ↔ x ∈ l) ∧ Step nowhere w w' := by
 have hq := eqlH
 have HL := Lib.hid hl
 go_enter Tryz.func204, Tryz.ntmps204
 go_wp2_with (first | ((with_reducible apply (wpl_box_agg (dst := some 3))); exact rfl; intro zx wzx _ _ _))
 go_loopw [8] (fun kv wr => ∃ k : Nat, k ≤ n ∧ kv = .int .i64 (k : Int) ∧ (∀ j, j < k → x ≠ hget l j) ∧ Step nowhere w wr ∧ HB wr zx 23 (u8s x.l)) (fun kv _ => n - (intOf kv).toNat)
 case atStart => exact ⟨0, Nat.zero_le _, rfl, fun j hj => by omega, stepN, inferInstance⟩
 case round =>
  obtain ⟨k, hk, rfl, hj, _, _⟩ := hrel
  have HJ := Lib.hid hj
  clear hj
  by_cases hlt : k < n
  · have hltI : (k : Int) < n := by omega
    have hkl : k < l.length := by omega
    by_cases hx : x = hget l k
    · have hd : decide (x = hget l k) = true := decide_eq_true hx
      have hmem : x ∈ l := by
       rw [hx]
       simp [hget, List.getD_eq_getElem?_getD, hkl]
      have HM := Lib.hid hmem
      clear hx hmem
      go_wp2_with fail
      refine wp_region_N (nowhere) (by kernel_rfl) (fun wd _ _ => ?_)
      refine' tk 0 _ rfl (by kernel_rfl) (by kernel_rfl) (by kernel_rfl) (fun _ _ _ h => h) (yo (by rfl) fun w' _ => ?_) inferInstance ?_
      rotate_left
      · ((apply ev_loadrow); exact rfl; infer_instance; infer_instance; (first | (with_reducible assumption) | (with_reducible exact H32.size _) | kernel_rfl))
      try simp only [Act.put, sA, sB, sC]
      refine' tk 1 _ rfl (by kernel_rfl) (by kernel_rfl) (by kernel_rfl) (fun _ _ _ h => h) (yo (by rfl) fun w' _ => ?_) inferInstance ?_
      rotate_left
      · (go_simp; try with_reducible rfl)
      try simp only [Act.put, sA, sB, sC]
      refine' tk 2 _ rfl (by kernel_rfl) (by kernel_rfl) (by kernel_rfl) (fun _ _ _ h => h) (yo (by rfl) fun w' _ => ?_) inferInstance ?_
      rotate_left
      · (go_simp; try with_reducible rfl)
      try simp only [Act.put, sA, sB, sC]
      refine' tk 3 _ rfl (by kernel_rfl) (by kernel_rfl) (by kernel_rfl) (fun _ _ _ h => h) (yo (by rfl) fun w' _ => ?_) inferInstance ?_
      rotate_left
      · ((apply ev_indexH'); exact rfl; exact rfl; infer_instance; infer_instance; (first | (with_reducible assumption) | omega); (first | (with_reducible assumption) | omega); (first | (with_reducible assumption) | omega))
      try simp only [Act.put, sA, sB, sC]
      refine' tk 4 _ rfl (by kernel_rfl) (by kernel_rfl) (by kernel_rfl) (fun _ _ _ h => h) (yo (by rfl) fun w' _ => ?_) inferInstance ?_
      rotate_left
      · ((apply (ev_loadhash (t := 23))); exact rfl; infer_instance; infer_instance; (first | (with_reducible assumption) | omega))
      try simp only [Act.put, sA, sB, sC]
      refine' tk 5 _ rfl (by kernel_rfl) (by kernel_rfl) (by kernel_rfl) (fun _ _ _ h => h) (yo (by rfl) fun w' _ => ?_) inferInstance ?_
      rotate_left
      · (go_simp; try with_reducible rfl)
      try simp only [Act.put, sA, sB, sC]
      refine wpAnyH_done (by kernel_rfl) ?_ _
      go_wp2_with fail
      go_ret
      exact ⟨_, rfl, ⟨fun _ => HM.out, fun _ => by omega⟩, stepN⟩
    · have hd : decide (x = hget l k) = false := decide_eq_false hx
      have HX := Lib.hid hx
      clear hx
      go_wp2_with fail
      refine wp_region_N (nowhere) (by kernel_rfl) (fun wd _ _ => ?_)
      refine' tk 0 _ rfl (by kernel_rfl) (by kernel_rfl) (by kernel_rfl) (fun _ _ _ h => h) (yo (by rfl) fun w' _ => ?_) inferInstance ?_
      rotate_left
      · ((apply ev_loadrow); exact rfl; infer_instance; infer_instance; (first | (with_reducible assumption) | (with_reducible exact H32.size _) | kernel_rfl))
      try simp only [Act.put, sA, sB, sC]
      refine' tk 1 _ rfl (by kernel_rfl) (by kernel_rfl) (by kernel_rfl) (fun _ _ _ h => h) (yo (by rfl) fun w' _ => ?_) inferInstance ?_
      rotate_left
      · (go_simp; try with_reducible rfl)
      try simp only [Act.put, sA, sB, sC]
      refine' tk 2 _ rfl (by kernel_rfl) (by kernel_rfl) (by kernel_rfl) (fun _ _ _ h => h) (yo (by rfl) fun w' _ => ?_) inferInstance ?_
      rotate_left
      · (go_simp; try with_reducible rfl)
      try simp only [Act.put, sA, sB, sC]
      refine' tk 3 _ rfl (by kernel_rfl) (by kernel_rfl) (by kernel_rfl) (fun _ _ _ h => h) (yo (by rfl) fun w' _ => ?_) inferInstance ?_
      rotate_left
      · ((apply ev_indexH'); exact rfl; exact rfl; infer_instance; infer_instance; (first | (with_reducible assumption) | omega); (first | (with_reducible assumption) | omega); (first | (with_reducible assumption) | omega))
      try simp only [Act.put, sA, sB, sC]
      refine' tk 4 _ rfl (by kernel_rfl) (by kernel_rfl) (by kernel_rfl) (fun _ _ _ h => h) (yo (by rfl) fun w' _ => ?_) inferInstance ?_
      rotate_left
      · ((apply (ev_loadhash (t := 23))); exact rfl; infer_instance; infer_instance; (first | (with_reducible assumption) | omega))
      try simp only [Act.put, sA, sB, sC]
      refine' tk 5 _ rfl (by kernel_rfl) (by kernel_rfl) (by kernel_rfl) (fun _ _ _ h => h) (yo (by rfl) fun w' _ => ?_) inferInstance ?_
      rotate_left
      · (go_simp; try with_reducible rfl)
      try simp only [Act.put, sA, sB, sC]
      refine wpAnyH_done (by kernel_rfl) ?_ _
      go_wp2_with fail
      refine ⟨⟨k + 1, by omega, by go_num, fun j hj => ?_, stepN, inferInstance⟩, by simp [intOf]; omega⟩
      by_cases hjk : j = k
      · subst hjk; exact HX.out
      · exact HJ.out j (by omega)
  · have hltI : ¬ (k : Int) < n := by omega
    go_wp2_with fail
    go_ret
    refine ⟨_, rfl, ⟨fun h => by simp at h, fun h => ?_⟩, stepN⟩
    obtain ⟨j, hj, e⟩ := List.mem_iff_getElem.1 h
    have := HL.out
    refine absurd ?_ (HJ.out j (by omega))
    rw [← e]
    simp [hget, List.getD_eq_getElem?_getD, hj]
set_option maxRecDepth 100000 in
set_option maxHeartbeats 1600000 in
theorem hcontains_calls {A : Option Addr} {n c : Nat} {l : List H32} (x : H32) {w : World} [hr : HR w A (cellsOf l)] (hl : l.length = n) (hmax : n ≤ 1000000000) :
    Calls Tryz.prog 199 #[.slice A n c, .agg (u8s x.l)] w fun e w' => e = .returned (.bool (decide (x ∈ l))) ∧ Step nowhere w w' := by
 go_enter Tryz.func199, Tryz.ntmps199
 go_wp2_with (first | ((with_reducible apply (wpl_box_agg (dst := some 3))); exact rfl; intro zx wzx _ _ _) | ((with_reducible apply wpl_loadrow); exact rfl; infer_instance; infer_instance; (first | (with_reducible assumption) | (with_reducible exact H32.size _) | kernel_rfl)))
 refine (hindex_calls (l := l) x hl hmax).mono ?_
 rintro e w1 ⟨r, rfl, hr, _⟩
 have hd : decide (0 ≤ r) = decide (x ∈ l) := decide_eq_decide.2 hr
 have HD := Lib.hid hd
 clear hd hr
 go_wp2_with fail
 go_ret
 refine ⟨?_, stepN⟩
 rw [← HD.out]
 rfl
def isB (l : List H32) (need : Int) : Bool := decide (l.length ≤ 4) && decide (1 ≤ need) && decide (need ≤ l.length) && allB l l.length
end Go.Proofs.YtgjnjhhhbkidbaaGreat
end
section

end
section
open Go Go.RowKit
namespace Go.Proofs.YtgjnjhhhbkidbaaGreat
end Go.Proofs.YtgjnjhhhbkidbaaGreat
end
section
open Go Go.RowKit Go.WideMaps
namespace Go.Proofs.YtgjnjhhhbkidbaaGreat
instance iQmC_1 : HashKey Tryz.prog 23 5 := ⟨⟨Tryz.underlying23, by kernel_rfl, by kernel_rfl, by kernel_rfl⟩, Tryz.underlying5, ⟨Tryz.prog.types.size - 1, by kernel_rfl⟩⟩
instance OffB.bornHMH (w : World) (z g m : Nat) (f : H32 → Bool) [b : Born w z] [h : HMH Tryz.prog 23 w g m f] : OffB (only z) g := ⟨fun e => by
 have e' : g = z := e
 have := h.out.lt
 rw [e', b.eq] at this
 omega⟩
instance OffB.laterHMH (w : World) (z g m : Nat) (f : H32 → Bool) [b : Born w g] [h : HMH Tryz.prog 23 w z m f] : OffB (only z) g := ⟨fun e => by
 have e' : g = z := e
 have := h.out.lt
 rw [← e', b.eq] at this
 omega⟩
instance OffB.grewHMH (w : World) (A A' : Option Addr) (g m : Nat) (f : H32 → Bool) [k : Grew w A A'] [h : HMH Tryz.prog 23 w g m f] [o : OffB (rowOf A) g] : OffB (rowOf A') g := ⟨fun ⟨ad, e, hk⟩ => by
 rcases k.out with h1 | h1
 · rw [h1] at e
   exact o.out ⟨ad, e, hk⟩
 · rw [h1] at e
   injection e with e
   have := h.out.lt
   rw [← hk, ← e] at this
   exact absurd this (Nat.lt_irrefl _)⟩
/-- a row of digests of its own is what is told -/
def WhoPost (R : List H32) (w w' : World) (e : Ending) : Prop := ∃ B n' c', e = .returned (.slice B n' c') ∧ R.length = n' ∧ HR w' B (cellsOf R) ∧ Step nowhere w w'
end Go.Proofs.YtgjnjhhhbkidbaaGreat
end
section
open Go Go.RowKit Go.WideMaps
namespace Go.Proofs.YtgjnjhhhbkidbaaGreat
end Go.Proofs.YtgjnjhhhbkidbaaGreat
end
