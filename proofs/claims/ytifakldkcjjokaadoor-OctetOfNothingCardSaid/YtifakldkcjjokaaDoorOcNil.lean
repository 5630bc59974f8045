/- A nil Writer lays nothing, a nil Reader has nothing (the law OctetOfNothing). -/
import Derived.Test.YtifakldkcjjokaaDoorOcR
open Go Go.RowKit
namespace Go.Proofs.YtifakldkcjjokaaDoor
theorem Nums_nil (A : Option Addr) (n c : Nat) (w : World) : Calls Tryd.prog 11 #[.pointer none, .slice A n c] w fun e w' => e = .returned (.tuple #[]) ∧ w' = w := by
  go_enter Tryd.func11, Tryd.ntmps11
  go_wp2_with fail
  first | go_end0 | exact bodyPost_ret (results_none rfl _ _ _) rfl ⟨rfl, rfl⟩
theorem wRaw_nil (A : Option Addr) (n c : Nat) (w : World) : Calls Tryd.prog 26 #[.pointer none, .slice A n c] w fun e w' => e = .returned (.tuple #[]) ∧ w' = w := by
  go_enter Tryd.func26, Tryd.ntmps26
  go_wp2_with fail
  go_end0
  exact ⟨rfl, rfl⟩
set_option maxRecDepth 100000 in
theorem wBytes_nil1 (ad : Addr) (c : Nat) (B : Option Addr) (m d : Nat) (w : World) (h : w.cell? ad = some (.slice B m d)) (_hm : m ≤ 9223372036854775807) :
    Calls Tryd.prog 23 #[.pointer none, .slice (some ad) 1 c] w fun e w' => e = .returned (.tuple #[]) ∧ Hid (Chg nowhere w w') := by
  have h' : w.cell? (ad.add 0) = some (.slice B m d) := by rw [add_zero_spot]; exact h
  go_enter Tryd.func23, Tryd.ntmps23
  go_wp2_with fail
  refine wp_loop_rounds 2 ?_
  rw [rounds_succ]
  go_wp2_with fail
  refine (Nums_nil _ _ _ _).mono ?_
  rintro e w1 ⟨rfl, rfl⟩
  go_wp2_with fail
  refine (wRaw_nil _ _ _ _).mono ?_
  rintro e w1 ⟨rfl, rfl⟩
  go_wp2_with fail
  rw [rounds_succ]
  go_wp2_with fail
  go_end0
  exact ⟨rfl, (Chg.refl _ _).alloc _⟩
theorem Out_nil (w : World) : Calls Tryd.prog 12 #[.pointer none] w fun e w' => e = .returned (.slice none 0 0) ∧ w' = w := by
  go_enter Tryd.func12, Tryd.ntmps12
  go_wp2_with fail
  go_ret
  exact ⟨rfl, rfl⟩
theorem rNum_nil (w : World) : Calls Tryd.prog 17 #[.pointer none] w fun e w' => e = .returned (.int .i64 0) ∧ w' = w := by
  go_enter Tryd.func17, Tryd.ntmps17
  go_wp2_with fail
  refine (Good_nil _).mono ?_
  rintro e w1 ⟨rfl, rfl⟩
  go_wp2_with fail
  go_ret
  exact ⟨rfl, rfl⟩
theorem rRaw_nil (i : Int) (w : World) : Calls Tryd.prog 29 #[.pointer none, .int .i64 i] w fun e w' => e = .returned (.slice none 0 0) ∧ w' = w := by
  rcases (show i < 0 ∨ i = 0 ∨ 0 < i by omega) with h | h | h
  · go_enter Tryd.func29, Tryd.ntmps29
    go_wp2_with fail
    refine (Bad_nil _).mono ?_
    rintro e w1 ⟨rfl, rfl⟩
    go_wp2_with fail
    refine (Good_nil _).mono ?_
    rintro e w1 ⟨rfl, rfl⟩
    go_wp2_with fail
    go_ret
    exact ⟨rfl, rfl⟩
  · subst h
    go_enter Tryd.func29, Tryd.ntmps29
    go_wp2_with fail
    refine (Left_nil _).mono ?_
    rintro e w1 ⟨rfl, rfl⟩
    go_wp2_with fail
    refine (Good_nil _).mono ?_
    rintro e w1 ⟨rfl, rfl⟩
    go_wp2_with fail
    go_ret
    exact ⟨rfl, rfl⟩
  · have h0 : ¬ i < 0 := by omega
    go_enter Tryd.func29, Tryd.ntmps29
    go_wp2_with fail
    refine (Left_nil _).mono ?_
    rintro e w1 ⟨rfl, rfl⟩
    go_wp2_with fail
    refine (Bad_nil _).mono ?_
    rintro e w1 ⟨rfl, rfl⟩
    go_wp2_with fail
    refine (Good_nil _).mono ?_
    rintro e w1 ⟨rfl, rfl⟩
    go_wp2_with fail
    go_ret
    exact ⟨rfl, rfl⟩
theorem rBytes_nil (w : World) : Calls Tryd.prog 27 #[.pointer none] w fun e w' => e = .returned (.slice none 0 0) ∧ w' = w := by
  go_enter Tryd.func27, Tryd.ntmps27
  go_wp2_with fail
  refine (rNum_nil _).mono ?_
  rintro e w1 ⟨rfl, rfl⟩
  go_wp2_with fail
  refine (rRaw_nil _ _).mono ?_
  rintro e w1 ⟨rfl, rfl⟩
  go_wp2_with fail
  go_ret
  exact ⟨rfl, rfl⟩
theorem Whole_nil (w : World) : Calls Tryd.prog 19 #[.pointer none] w fun e w' => e = .returned (.bool false) ∧ w' = w := by
  go_enter Tryd.func19, Tryd.ntmps19
  go_wp2_with fail
  refine (Good_nil _).mono ?_
  rintro e w1 ⟨rfl, rfl⟩
  go_wp2_with fail
  go_ret
  exact ⟨rfl, rfl⟩
set_option maxRecDepth 100000 in
theorem rNums_nil1 (ad : Addr) (c : Nat) (w : World) (h : w.cell? ad = some (.pointer none)) :
    Calls Tryd.prog 35 #[.pointer none, .slice (some ad) 1 c] w fun e w' => e = .returned (.tuple #[]) ∧ w' = w := by
  have h' : w.cell? (ad.add 0) = some (.pointer none) := by rw [add_zero_spot]; exact h
  go_enter Tryd.func35, Tryd.ntmps35
  go_wp2_with fail
  refine wp_loop_rounds 2 ?_
  rw [rounds_succ]
  go_wp2_with fail
  refine (rNum_nil _).mono ?_
  rintro e w1 ⟨rfl, rfl⟩
  go_wp2_with fail
  rw [rounds_succ]
  go_wp2_with fail
  go_end0
  exact ⟨rfl, rfl⟩
set_option maxRecDepth 100000 in
set_option maxHeartbeats 400000 in
theorem octetOfNothing_calls (v : Int) (B : Option Addr) (n c : Nat) (w : World) (hT : TabOk w) (hn : n ≤ 9223372036854775807) :
    Calls Tryd.prog 7 #[.int .i64 v, .slice B n c] w fun e w' => e = .returned (.bool true) ∧ Chg nowhere w w' := by
  have HT := Lib.hid hT
  clear hT
  by_cases hbig : 4000 < n
  · have g1 : (4000 : Int) < n := by omega
    go_enter Tryd.func7, Tryd.ntmps7
    go_wp2_with fail
    go_ret
    exact ⟨rfl, Chg.refl _ _⟩
  · have g1 : ¬ (4000 : Int) < n := by omega
    go_enter Tryd.func7, Tryd.ntmps7
    go_wp2_with fail
    refine (Nums_nil _ _ _ _).mono ?_
    rintro e w1 ⟨rfl, rfl⟩
    go_wp2_with fail
    refine (wBytes_nil1 _ _ B n c _ ?_ hn).mono ?_
    · simp
    rintro e w2 ⟨rfl, h2⟩
    have HC2 := Lib.hid ((((Chg.refl nowhere w).alloc _).alloc _).step h2.out (fun _ h => h.elim))
    clear h2
    go_wp2_with fail
    refine (wRaw_nil _ _ _ _).mono ?_
    rintro e w3 ⟨rfl, rfl⟩
    go_wp2_with fail
    refine (Bad_nil _).mono ?_
    rintro e w3 ⟨rfl, rfl⟩
    go_wp2_with fail
    refine (rNums_nil1 _ _ _ ?_).mono ?_
    · exact (Blk.new _ _ _).cell 0
    rintro e w4 ⟨rfl, rfl⟩
    go_wp2_with fail
    refine (Out_nil _).mono ?_
    rintro e w5 ⟨rfl, rfl⟩
    go_wp2_with fail
    refine (rNum_nil _).mono ?_
    rintro e w5 ⟨rfl, rfl⟩
    go_wp2_with fail
    refine (rBytes_nil _).mono ?_
    rintro e w5 ⟨rfl, rfl⟩
    go_wp2_with fail
    refine (rRaw_nil _ _).mono ?_
    rintro e w5 ⟨rfl, rfl⟩
    go_wp2_with fail
    refine (Left_nil _).mono ?_
    rintro e w5 ⟨rfl, rfl⟩
    go_wp2_with fail
    refine (Good_nil _).mono ?_
    rintro e w5 ⟨rfl, rfl⟩
    go_wp2_with fail
    refine (Whole_nil _).mono ?_
    rintro e w5 ⟨rfl, rfl⟩
    go_wp2_with fail
    have HC3 := Lib.hid (HC2.out.alloc (.cells #[.pointer none] 47))
    refine (known_calls _ (HT.out.chg HC3.out (fun h => h))).mono ?_
    rintro e w6 ⟨rfl, h6⟩
    have HC6 := Lib.hid (HC3.out.step h6 (fun _ h => h.elim))
    clear h6
    go_wp2_with fail
    go_ret
    exact ⟨rfl, HC6.out⟩
end Go.Proofs.YtifakldkcjjokaaDoor
