/- What is fresh later was fresh earlier (the law ChainTime). -/
import Derived.Test.YthoiejmhfhdmkaaMem
import Derived.Test.YthoiejmhfhdmkaaProg
open Go Go.RowKit
namespace Go.Proofs.Ythoiejmhfhdmkaa
set_option maxRecDepth 100000 in
set_option maxHeartbeats 400000 in
theorem fresh_yes (v0 v2 v3 v4 v5 v6 v7 v8 v9 : Value) (x n : Int) (w : World) (h : n < x) :
    Calls Try.prog 17 #[.agg #[v0, .int .i64 x, v2, v3, v4, v5, v6, v7, v8, v9], .int .i64 n] w fun e w' => e = .returned (.bool true) ∧ w' = w.alloc (.cells #[v0, .int .i64 x, v2, v3, v4, v5, v6, v7, v8, v9] 31) := by
  go_enter Try.func17, Try.ntmps17
  go_wp2
  go_ret
  exact ⟨rfl, rfl⟩
set_option maxRecDepth 100000 in
set_option maxHeartbeats 400000 in
theorem fresh_no (v0 v2 v3 v4 v5 v6 v7 v8 v9 : Value) (x n : Int) (w : World) (h : ¬ n < x) :
    Calls Try.prog 17 #[.agg #[v0, .int .i64 x, v2, v3, v4, v5, v6, v7, v8, v9], .int .i64 n] w fun e w' => e = .returned (.bool false) ∧ w' = w.alloc (.cells #[v0, .int .i64 x, v2, v3, v4, v5, v6, v7, v8, v9] 31) := by
  go_enter Try.func17, Try.ntmps17
  go_wp2
  go_ret
  exact ⟨rfl, rfl⟩
set_option maxRecDepth 100000 in
set_option maxHeartbeats 400000 in
theorem chKnown_calls (w : World) :
    Calls Try.prog 18 #[] w fun e w' => e = .returned (.bool true) ∧ Hid (Chg nowhere w w') := by
  go_enter Try.func18, Try.ntmps18
  go_wp2_with fail
  refine (fresh_yes _ _ _ _ _ _ _ _ _ _ _ _ (by decide)).mono ?_
  rintro e w1 ⟨rfl, rfl⟩
  go_wp2_with fail
  refine (fresh_no _ _ _ _ _ _ _ _ _ _ _ _ (by decide)).mono ?_
  rintro e w1 ⟨rfl, rfl⟩
  go_wp2_with fail
  go_ret
  exact ⟨rfl, ((Chg.refl _ _).alloc _).alloc _⟩
set_option maxRecDepth 100000 in
set_option maxHeartbeats 800000 in
theorem chTime_calls (x a b : Int) (w : World) :
    Calls Try.prog 4 #[.int .i64 x, .int .i64 a, .int .i64 b] w fun e w' => e = .returned (.bool true) ∧ Chg nowhere w w' := by
  by_cases hab : b < a
  · by_cases h1 : a < x
    · have h2 : b < x := by omega
      go_enter Try.func4, Try.ntmps4
      go_wp2_with fail
      refine (fresh_yes _ _ _ _ _ _ _ _ _ _ _ _ (by omega)).mono ?_
      rintro e w1 ⟨rfl, rfl⟩
      go_wp2_with fail
      refine (fresh_yes _ _ _ _ _ _ _ _ _ _ _ _ (by omega)).mono ?_
      rintro e w1 ⟨rfl, rfl⟩
      go_wp2_with fail
      refine (fresh_yes _ _ _ _ _ _ _ _ _ _ _ _ (by omega)).mono ?_
      rintro e w1 ⟨rfl, rfl⟩
      go_wp2_with fail
      refine (chKnown_calls _).mono ?_
      rintro e w2 ⟨rfl, h3⟩
      go_wp2_with fail
      go_ret
      exact ⟨rfl, Chg.step (((((Chg.refl _ _).alloc _).alloc _).alloc _).alloc _) h3.out (fun _ h => h.elim)⟩

    · by_cases h2 : b < x
      · have h3 : b < x := h2
        go_enter Try.func4, Try.ntmps4
        go_wp2_with fail
        refine (fresh_no _ _ _ _ _ _ _ _ _ _ _ _ (by omega)).mono ?_
        rintro e w1 ⟨rfl, rfl⟩
        go_wp2_with fail
        refine (fresh_yes _ _ _ _ _ _ _ _ _ _ _ _ (by omega)).mono ?_
        rintro e w1 ⟨rfl, rfl⟩
        go_wp2_with fail
        refine (chKnown_calls _).mono ?_
        rintro e w2 ⟨rfl, h3⟩
        go_wp2_with fail
        go_ret
        exact ⟨rfl, Chg.step ((((Chg.refl _ _).alloc _).alloc _).alloc _) h3.out (fun _ h => h.elim)⟩

      · have hd : decide (b < x) = false := decide_eq_false (by omega)
        go_enter Try.func4, Try.ntmps4
        go_wp2_with fail
        refine (fresh_no _ _ _ _ _ _ _ _ _ _ _ _ (by omega)).mono ?_
        rintro e w1 ⟨rfl, rfl⟩
        go_wp2_with fail
        refine (fresh_no _ _ _ _ _ _ _ _ _ _ _ _ (by omega)).mono ?_
        rintro e w1 ⟨rfl, rfl⟩
        go_wp2_with fail
        refine (chKnown_calls _).mono ?_
        rintro e w2 ⟨rfl, h3⟩
        go_wp2_with fail
        go_ret
        exact ⟨rfl, Chg.step ((((Chg.refl _ _).alloc _).alloc _).alloc _) h3.out (fun _ h => h.elim)⟩

  · by_cases h1 : b < x
    · have h2 : a < x := by omega
      go_enter Try.func4, Try.ntmps4
      go_wp2_with fail
      refine (fresh_yes _ _ _ _ _ _ _ _ _ _ _ _ (by omega)).mono ?_
      rintro e w1 ⟨rfl, rfl⟩
      go_wp2_with fail
      refine (fresh_yes _ _ _ _ _ _ _ _ _ _ _ _ (by omega)).mono ?_
      rintro e w1 ⟨rfl, rfl⟩
      go_wp2_with fail
      refine (fresh_yes _ _ _ _ _ _ _ _ _ _ _ _ (by omega)).mono ?_
      rintro e w1 ⟨rfl, rfl⟩
      go_wp2_with fail
      refine (chKnown_calls _).mono ?_
      rintro e w2 ⟨rfl, h3⟩
      go_wp2_with fail
      go_ret
      exact ⟨rfl, Chg.step (((((Chg.refl _ _).alloc _).alloc _).alloc _).alloc _) h3.out (fun _ h => h.elim)⟩

    · by_cases h2 : a < x
      · have h3 : a < x := h2
        go_enter Try.func4, Try.ntmps4
        go_wp2_with fail
        refine (fresh_no _ _ _ _ _ _ _ _ _ _ _ _ (by omega)).mono ?_
        rintro e w1 ⟨rfl, rfl⟩
        go_wp2_with fail
        refine (fresh_yes _ _ _ _ _ _ _ _ _ _ _ _ (by omega)).mono ?_
        rintro e w1 ⟨rfl, rfl⟩
        go_wp2_with fail
        refine (chKnown_calls _).mono ?_
        rintro e w2 ⟨rfl, h3⟩
        go_wp2_with fail
        go_ret
        exact ⟨rfl, Chg.step ((((Chg.refl _ _).alloc _).alloc _).alloc _) h3.out (fun _ h => h.elim)⟩

      · have hd : decide (a < x) = false := decide_eq_false (by omega)
        go_enter Try.func4, Try.ntmps4
        go_wp2_with fail
        refine (fresh_no _ _ _ _ _ _ _ _ _ _ _ _ (by omega)).mono ?_
        rintro e w1 ⟨rfl, rfl⟩
        go_wp2_with fail
        refine (fresh_no _ _ _ _ _ _ _ _ _ _ _ _ (by omega)).mono ?_
        rintro e w1 ⟨rfl, rfl⟩
        go_wp2_with fail
        refine (chKnown_calls _).mono ?_
        rintro e w2 ⟨rfl, h3⟩
        go_wp2_with fail
        go_ret
        exact ⟨rfl, Chg.step ((((Chg.refl _ _).alloc _).alloc _).alloc _) h3.out (fun _ h => h.elim)⟩

end Go.Proofs.Ythoiejmhfhdmkaa
