/- container/heap on frames that wait. -/
import Derived.Test.YthoipeamdolfgaaBsB
open Go Go.RowKit
namespace Go.Proofs.Ythoipeamdolfgaa
open Hp
theorem mLess_ (ad : Addr) (w : World) : (method 247 88 (.pointer (some ad)) "Less").run Try.prog w = ((loadVar 84 ad) >>= fun v => pure (92, v)).run Try.prog w := by kernel_rfl
theorem mSwap_ (ad : Addr) (w : World) : (method 247 88 (.pointer (some ad)) "Swap").run Try.prog w = ((loadVar 84 ad) >>= fun v => pure (93, v)).run Try.prog w := by kernel_rfl
theorem mLen_ (ad : Addr) (w : World) : (method 247 88 (.pointer (some ad)) "Len").run Try.prog w = ((loadVar 84 ad) >>= fun v => pure (45, v)).run Try.prog w := by kernel_rfl
theorem mPush_ (ad : Addr) (w : World) : (method 247 88 (.pointer (some ad)) "Push").run Try.prog w = .ok (96, .pointer (some ad)) w := by kernel_rfl
theorem mPop (ad : Addr) (w : World) : (method 247 88 (.pointer (some ad)) "Pop").run Try.prog w = .ok (95, .pointer (some ad)) w := by kernel_rfl
theorem loadQ {z : Nat} {t : TypeId} {cs : Array Value} {v : Value} {w : World} (h : HB w z t cs) (hc : nth cs.toList 0 = some v) (f : FuncId) : ((loadVar 84 ⟨z, 0, none⟩) >>= fun v => pure (f, v)).run Try.prog w = .ok (f, v) w := by
  have ht : CellT Try.prog 84 := inferInstance
  have hv : w.cell? ⟨z, 0, none⟩ = some v := by
    rw [h.out.cell, ← hc, ← nth_get]
    simp
  simp [loadVar, ht.agg w, hv]
theorem mLess {z : Nat} {t : TypeId} {cs : Array Value} {v : Value} {w : World} (h : HB w z t cs) (hc : nth cs.toList 0 = some v) : (method 247 88 (.pointer (some ⟨z, 0, none⟩)) "Less").run Try.prog w = .ok (92, v) w := (mLess_ _ _).trans (loadQ h hc _)
theorem mSwap {z : Nat} {t : TypeId} {cs : Array Value} {v : Value} {w : World} (h : HB w z t cs) (hc : nth cs.toList 0 = some v) : (method 247 88 (.pointer (some ⟨z, 0, none⟩)) "Swap").run Try.prog w = .ok (93, v) w := (mSwap_ _ _).trans (loadQ h hc _)
theorem mLen {z : Nat} {t : TypeId} {cs : Array Value} {v : Value} {w : World} (h : HB w z t cs) (hc : nth cs.toList 0 = some v) : (method 247 88 (.pointer (some ⟨z, 0, none⟩)) "Len").run Try.prog w = .ok (45, v) w := (mLen_ _ _).trans (loadQ h hc _)
set_option maxRecDepth 100000 in
set_option maxHeartbeats 800000 in
theorem up_calls {z : Nat} {t : TypeId} {cs : Array Value} {A : Option Addr} {n c : Nat} (F : Nat) (l : List BM) (j : Nat) {w : World} [HB w z t cs] (hc : nth cs.toList 0 = some (.slice A n c)) [ho : HO w 91 3 A n c (cellsOf l)] (hl : l.length = n) (hj : j < n) (hF : j ≤ F) (hlim : n ≤ 100000) [oz : OffB (rowOf A) z] :
    Calls Try.prog 56 #[.iface 88 (.pointer (some ⟨z, 0, none⟩)), .int .i64 (j : Int)] w fun e w' => e = .returned (.tuple #[]) ∧ Step (rowOf A) w w' ∧ HO w' 91 3 A n c (cellsOf (upL bm0 ahB F l j)) := by
  go_enter Try.func56, Try.ntmps56
  go_wp2_with fail
  go_loopw [1] (fun jv wr => ∃ (k f : Nat) (l' : List BM), k < n ∧ k ≤ f ∧ jv = .int .i64 (k : Int) ∧ Step (rowOf A) w wr ∧ HO wr 91 3 A n c (cellsOf l') ∧ Hid (l'.length = n) ∧ Hid (upL bm0 ahB f l' k = upL bm0 ahB F l j)) (fun jv _ => (intOf jv).toNat)
  case atStart => exact ⟨j, F, l, hj, hF, rfl, stepC, inferInstance, Lib.hid hl, Lib.hid rfl⟩
  case round =>
    obtain ⟨k, f, l', hk, hf, rfl, _, _, HL, HT⟩ := hrel
    by_cases k0 : k = 0
    · go_wp2_with (first | go_skip)
      go_end0
      have hT : upL bm0 ahB F l j = l' := by
        rw [← HT.out, k0]
        cases f <;> rfl
      rw [hT]
      exact ⟨rfl, stepC, inferInstance⟩
    · obtain ⟨p, hp⟩ : ∃ p, (k - 1) / 2 = p := ⟨_, rfl⟩
      have hpI : ((k : Int) - 1) / 2 = (p : Int) := by omega
      have hpk : p < k := by omega
      obtain ⟨f', rfl⟩ : ∃ f', f = f' + 1 := ⟨f - 1, by omega⟩
      have HT2 := Lib.hid (show upL bm0 ahB F l j = if ahB (gt l' k) (gt l' p) then upL bm0 ahB f' (swp bm0 l' p k) p else l' by rw [← HT.out]; show (if k = 0 then _ else _) = _; rw [if_neg k0, hp]; rfl)
      have HP := Lib.hid hpI
      clear hpI hp
      have HLL := HL.out
      go_wp2_with (first | go_skip)
      have hb1 : HB wr z t cs := inferInstance
      rw [mLess hb1 hc, HP.out]
      go_wp2_with fail
      refine (less_calls l' k p (A := A) (c := c) HL.out hk (by omega)).mono ?_
      rintro e w5 ⟨rfl, _⟩
      cases hb : ahB (gt l' k) (gt l' p) with
      | false =>
        have hT : upL bm0 ahB F l j = l' := by rw [HT2.out, hb]; rfl
        clear hb HP HT HT2
        go_wp2_with (first | go_skip)
        go_end0
        rw [hT]
        exact ⟨rfl, stepC, inferInstance⟩
      | true =>
        have HT3 := Lib.hid (show upL bm0 ahB f' (swp bm0 l' p k) p = upL bm0 ahB F l j by rw [HT2.out, hb]; rfl)
        clear hb HT HT2
        go_wp2_with (first | go_skip)
        have hb2 : HB w5 z t cs := inferInstance
        rw [mSwap hb2 hc]
        go_wp2_with fail
        refine (swap_calls l' p k (A := A) (c := c) HL.out (by omega) hk).mono ?_
        rintro e w6 ⟨rfl, _, _⟩
        go_wp2_with (first | go_skip)
        refine ⟨⟨p, f', _, by omega, by omega, rfl, stepC, inferInstance, Lib.hid (by rw [swp_len]; exact HL.out), HT3⟩, by simp [intOf]; omega⟩
set_option maxRecDepth 100000 in
set_option maxHeartbeats 1600000 in
theorem down_calls {z : Nat} {t : TypeId} {cs : Array Value} {A : Option Addr} {n c : Nat} (F : Nat) (l : List BM) (i0 m : Nat) {w : World} [HB w z t cs] (hc : nth cs.toList 0 = some (.slice A n c)) [ho : HO w 91 3 A n c (cellsOf l)] (hl : l.length = n) (hm : m < n) (hi : i0 ≤ m) (hF : m ≤ i0 + F) (hlim : n ≤ 100000) [oz : OffB (rowOf A) z] :
    Calls Try.prog 66 #[.iface 88 (.pointer (some ⟨z, 0, none⟩)), .int .i64 (i0 : Int), .int .i64 (m : Int)] w fun e w' => (∃ b, e = .returned (.bool b)) ∧ Step (rowOf A) w w' ∧ HO w' 91 3 A n c (cellsOf (downL bm0 ahB F l i0 m)) := by
  go_enter Try.func66, Try.ntmps66
  go_wp2_with fail
  go_loopw [7] (fun jv wr => ∃ (i f : Nat) (l' : List BM), i ≤ m ∧ m ≤ i + f ∧ jv = .int .i64 (i : Int) ∧ Step (rowOf A) w wr ∧ HO wr 91 3 A n c (cellsOf l') ∧ Hid (l'.length = n) ∧ Hid (downL bm0 ahB f l' i m = downL bm0 ahB F l i0 m)) (fun jv _ => m - (intOf jv).toNat)
  case atStart => exact ⟨i0, F, l, hi, hF, rfl, stepC, inferInstance, Lib.hid hl, Lib.hid rfl⟩
  case round =>
    obtain ⟨i, f, l', hi', hf, rfl, _, _, HL, HT⟩ := hrel
    obtain ⟨j1, hj1⟩ : ∃ j1, 2 * i + 1 = j1 := ⟨_, rfl⟩
    have HJ1 := Lib.hid (show 2 * (i : Int) + 1 = (j1 : Int) by omega)
    by_cases k0 : m ≤ j1
    · have hT : downL bm0 ahB F l i0 m = l' := by
        rw [← HT.out]
        cases f with
        | zero => rfl
        | succ f =>
          show (if 2 * i + 1 < m then _ else _) = _
          rw [if_neg (by omega)]
      have q1 : (m : Int) ≤ 2 * (i : Int) + 1 := by omega
      clear hj1 HJ1 k0
      go_wp2_with (first | go_skip)
      go_ret
      rw [hT]
      exact ⟨⟨_, rfl⟩, stepC, inferInstance⟩
    · obtain ⟨f', rfl⟩ : ∃ f', f = f' + 1 := ⟨f - 1, by omega⟩
      have HT2 := Lib.hid (show downL bm0 ahB F l i0 m = if ahB (gt l' (child bm0 ahB l' i m)) (gt l' i) then downL bm0 ahB f' (swp bm0 l' i (child bm0 ahB l' i m)) (child bm0 ahB l' i m) m else l' by rw [← HT.out]; show (if 2 * i + 1 < m then _ else _) = _; rw [if_pos (by omega)]; rfl)
      have HLL := HL.out
      have q1 : ¬ (m : Int) ≤ 2 * (i : Int) + 1 := by omega
      have hij : i < j1 := by omega
      by_cases k1 : j1 + 1 < m
      · have q2 : (2 * (i : Int) + 1) + 1 < (m : Int) := by omega
        have HC0 : ∀ b, ahB (gt l' (j1 + 1)) (gt l' j1) = b → child bm0 ahB l' i m = if b then j1 + 1 else j1 := fun b hb => by
          subst hj1
          unfold child
          rw [if_pos (by omega)]
          show (if ahB (gt l' (2 * i + 1 + 1)) (gt l' (2 * i + 1)) = true then 2 * i + 1 + 1 else 2 * i + 1) = _
          rw [hb]
        have HC := Lib.hid HC0
        obtain ⟨j2, hj2⟩ : ∃ j2, j1 + 1 = j2 := ⟨_, rfl⟩
        have HJ2 := Lib.hid (show (j1 : Int) + 1 = (j2 : Int) by omega)
        rw [hj2] at HC
        have hj2m : j2 < m := by omega
        have hij2 : i < j2 := by omega
        have hj1m : j1 < m := by omega
        have HJ3 := Lib.hid (show 2 * (i : Int) + 1 + 1 = (j2 : Int) by omega)
        have HJ4 := Lib.hid (show 2 * (i : Int) + 2 = (j2 : Int) by omega)
        clear hj1 hj2 k0 k1 HC0
        go_wp2_with (first | go_skip)
        try simp only [HJ4.out]
        try simp only [HJ3.out]
        try simp only [HJ1.out]
        try simp only [HJ2.out]
        have hb1 : HB wr z t cs := inferInstance
        rw [mLess hb1 hc]
        go_wp2_with fail
        refine (less_calls l' j2 j1 (A := A) (c := c) HL.out (by omega) (by omega)).mono ?_
        rintro e w5 ⟨rfl, _⟩
        clear q1 q2
        cases hb5 : ahB (gt l' j2) (gt l' j1) with
        | true =>
          have HT3 := Lib.hid (show downL bm0 ahB F l i0 m = if ahB (gt l' j2) (gt l' i) then downL bm0 ahB f' (swp bm0 l' i j2) j2 m else l' by rw [HT2.out, (HC.out true hb5).trans (if_pos rfl)])
          clear HT HT2 hb5
          go_wp2_with (first | go_skip)
          have hb3 : HB w5 z t cs := inferInstance
          rw [mLess hb3 hc]
          go_wp2_with fail
          refine (less_calls l' j2 i (A := A) (c := c) HL.out (by omega) (by omega)).mono ?_
          rintro e w7 ⟨rfl, _⟩
          cases hb9 : ahB (gt l' j2) (gt l' i) with
          | false =>
            have hT : downL bm0 ahB F l i0 m = l' := by rw [HT3.out, hb9]; rfl
            clear hb9 HT3
            go_wp2_with (first | go_skip)
            go_ret
            rw [hT]
            exact ⟨⟨_, rfl⟩, stepC, inferInstance⟩
          | true =>
            have HT4 := Lib.hid (show downL bm0 ahB f' (swp bm0 l' i j2) j2 m = downL bm0 ahB F l i0 m by rw [HT3.out, hb9]; rfl)
            clear hb9 HT3
            go_wp2_with (first | go_skip)
            have hb4 : HB w7 z t cs := inferInstance
            rw [mSwap hb4 hc]
            go_wp2_with fail
            refine (swap_calls l' i j2 (A := A) (c := c) HL.out (by omega) (by omega)).mono ?_
            rintro e w8 ⟨rfl, _, _⟩
            go_wp2_with (first | go_skip)
            refine ⟨⟨j2, f', _, by omega, by omega, rfl, stepC, inferInstance, Lib.hid (by rw [swp_len]; exact HL.out), HT4⟩, by simp [intOf]; omega⟩
        | false =>
          have HT3 := Lib.hid (show downL bm0 ahB F l i0 m = if ahB (gt l' j1) (gt l' i) then downL bm0 ahB f' (swp bm0 l' i j1) j1 m else l' by rw [HT2.out, (HC.out false hb5).trans (if_neg (by decide))])
          clear HT HT2 hb5
          go_wp2_with (first | go_skip)
          have hb3 : HB w5 z t cs := inferInstance
          rw [mLess hb3 hc]
          go_wp2_with fail
          refine (less_calls l' j1 i (A := A) (c := c) HL.out (by omega) (by omega)).mono ?_
          rintro e w7 ⟨rfl, _⟩
          cases hb9 : ahB (gt l' j1) (gt l' i) with
          | false =>
            have hT : downL bm0 ahB F l i0 m = l' := by rw [HT3.out, hb9]; rfl
            clear hb9 HT3
            go_wp2_with (first | go_skip)
            go_ret
            rw [hT]
            exact ⟨⟨_, rfl⟩, stepC, inferInstance⟩
          | true =>
            have HT4 := Lib.hid (show downL bm0 ahB f' (swp bm0 l' i j1) j1 m = downL bm0 ahB F l i0 m by rw [HT3.out, hb9]; rfl)
            clear hb9 HT3
            go_wp2_with (first | go_skip)
            have hb4 : HB w7 z t cs := inferInstance
            rw [mSwap hb4 hc]
            go_wp2_with fail
            refine (swap_calls l' i j1 (A := A) (c := c) HL.out (by omega) (by omega)).mono ?_
            rintro e w8 ⟨rfl, _, _⟩
            go_wp2_with (first | go_skip)
            refine ⟨⟨j1, f', _, by omega, by omega, rfl, stepC, inferInstance, Lib.hid (by rw [swp_len]; exact HL.out), HT4⟩, by simp [intOf]; omega⟩
      · have q2 : ¬ (2 * (i : Int) + 1) + 1 < (m : Int) := by omega
        have HC : child bm0 ahB l' i m = j1 := by
          unfold child
          rw [if_neg (by omega)]
          exact hj1
        have hj1m : j1 < m := by omega
        clear hj1 k0 k1
        have HT3 := Lib.hid (show downL bm0 ahB F l i0 m = if ahB (gt l' j1) (gt l' i) then downL bm0 ahB f' (swp bm0 l' i j1) j1 m else l' by rw [HT2.out, HC])
        clear HT HT2 HC
        go_wp2_with (first | go_skip)
        try rw [HJ1.out]
        have hb3 : HB wr z t cs := inferInstance
        rw [mLess hb3 hc]
        go_wp2_with fail
        refine (less_calls l' j1 i (A := A) (c := c) HL.out (by omega) (by omega)).mono ?_
        rintro e w7 ⟨rfl, _⟩
        cases hb9 : ahB (gt l' j1) (gt l' i) with
        | false =>
          have hT : downL bm0 ahB F l i0 m = l' := by rw [HT3.out, hb9]; rfl
          clear hb9 HT3
          go_wp2_with (first | go_skip)
          go_ret
          rw [hT]
          exact ⟨⟨_, rfl⟩, stepC, inferInstance⟩
        | true =>
          have HT4 := Lib.hid (show downL bm0 ahB f' (swp bm0 l' i j1) j1 m = downL bm0 ahB F l i0 m by rw [HT3.out, hb9]; rfl)
          clear hb9 HT3
          go_wp2_with (first | go_skip)
          have hb4 : HB w7 z t cs := inferInstance
          rw [mSwap hb4 hc]
          go_wp2_with fail
          refine (swap_calls l' i j1 (A := A) (c := c) HL.out (by omega) (by omega)).mono ?_
          rintro e w8 ⟨rfl, _, _⟩
          go_wp2_with (first | go_skip)
          refine ⟨⟨j1, f', _, by omega, by omega, rfl, stepC, inferInstance, Lib.hid (by rw [swp_len]; exact HL.out), HT4⟩, by simp [intOf]; omega⟩
theorem len_calls (A : Option Addr) (n c : Nat) (w : World) : Calls Try.prog 45 #[.slice A n c] w fun e w' => e = .returned (.int .i64 (n : Int)) ∧ w = w' := by
  go_enter Try.func45, Try.ntmps45
  go_wp2_with fail
  go_ret
  exact ⟨rfl, rfl⟩
theorem nth_set0 {cs : Array Value} (v : Value) (h : 0 < cs.size) : nth (cs.setIfInBounds 0 v).toList 0 = some v := by
  rw [← nth_get]
  simp [h]
theorem offB_moved {w : World} {z : Nat} {t : TypeId} {cs : Array Value} {A A' : Option Addr} (hb : HB w z t cs) [oz : OffB (rowOf A) z] (hg : ∀ ad, A' = some ad → A' = A ∨ w.heap.size ≤ ad.block) : OffB (rowOf A') z := ⟨fun ⟨ad, e, hk⟩ => by
  rcases hg ad e with h | h
  · exact oz.out ⟨ad, h ▸ e, hk⟩
  · have := hb.out.lt
    omega⟩
set_option maxRecDepth 100000 in
set_option maxHeartbeats 1600000 in
theorem hpush_calls {z : Nat} {t : TypeId} {cs : Array Value} {A : Option Addr} {n c : Nat} (l : List BM) (x : BM) {w : World} [hb : HB w z t cs] (hc : nth cs.toList 0 = some (.slice A n c)) (hcs : 0 < cs.size) [HO w 91 3 A n c (cellsOf l)] (hl : l.length = n) (hlim : n ≤ 1000) [oz : OffB (rowOf A) z] [oa : OffA (only z) A] :
    Calls Try.prog 41 #[.iface 88 (.pointer (some ⟨z, 0, none⟩)), .iface 91 x.v] w fun e w' => ∃ A' c', e = .returned (.tuple #[]) ∧ Step (zr z A) w w' ∧ HB w' z t (cs.setIfInBounds 0 (.slice A' (n + 1) c')) ∧ HO w' 91 3 A' (n + 1) c' (cellsOf (pushL bm0 ahB l x)) ∧ (∀ ad, A' = some ad → A' = A ∨ w.heap.size ≤ ad.block) := by
  go_enter Try.func41, Try.ntmps41
  go_wp2_with fail
  refine (qpush_calls l x hc hcs hlim).mono ?_
  rintro e w1 ⟨A', c', rfl, hs1, hb1, ho1, hg1⟩
  have oz1 : OffB (rowOf A') z := offB_moved hb hg1
  go_wp2_with fail
  rw [mLen hb1 (nth_set0 _ hcs)]
  go_wp2_with fail
  have HK := Lib.hid (show ((n + 1 : Nat) : Int) - 1 = (n : Int) by omega)
  have HK2 := Lib.hid (show (n : Int) + 1 - 1 = (n : Int) by omega)
  refine (len_calls A' (n + 1) c' w1).mono ?_
  rintro e w2 ⟨rfl, rfl⟩
  go_wp2_with fail
  refine (up_calls (A := A') (c := c') l.length (l ++ [x]) n (nth_set0 _ hcs) (by simp [hl]) (by omega) (by omega) (by omega)).mono ?_
  rintro e w3 ⟨rfl, hs3, ho3⟩
  go_wp2_with fail
  go_end0
  have hC : Chg (zr z A) w w3 := hs1.chg.trans hs3.chg (fun y hy ⟨ad, e, hk⟩ => (hg1 ad e).elim (fun h => .inr ⟨ad, h ▸ e, hk⟩) (fun h => by omega))
  have hb3 : HB w3 z t (cs.setIfInBounds 0 (.slice A' (n + 1) c')) := inferInstance
  refine ⟨A', c', rfl, ⟨hC⟩, hb3, ?_, hg1⟩
  unfold pushL
  rw [hl] at ho3 ⊢
  exact ho3
set_option maxRecDepth 100000 in
set_option maxHeartbeats 1600000 in
theorem hpop_calls {z : Nat} {t : TypeId} {cs : Array Value} {A : Option Addr} {m c : Nat} (l : List BM) {w : World} [hb : HB w z t cs] (hc : nth cs.toList 0 = some (.slice A (m + 1) c)) (hcs : 0 < cs.size) [HO w 91 3 A (m + 1) c (cellsOf l)] (hl : l.length = m + 1) (hlim : m ≤ 1000) [oz : OffB (rowOf A) z] [oa : OffA (only z) A] :
    Calls Try.prog 58 #[.iface 88 (.pointer (some ⟨z, 0, none⟩))] w fun e w' => (∃ v, e = .returned v) ∧ Step (zr z A) w w' ∧ HB w' z t (cs.setIfInBounds 0 (.slice A m c)) ∧ HO w' 91 3 A m c (cellsOf ((popL bm0 ahB l m).take m)) := by
  have HK := Lib.hid (show ((m + 1 : Nat) : Int) - 1 = (m : Int) by omega)
  have HK2 := Lib.hid (show (m : Int) + 1 - 1 = (m : Int) by omega)
  go_enter Try.func58, Try.ntmps58
  go_wp2_with fail
  rw [mLen hb hc]
  go_wp2_with fail
  refine (len_calls A (m + 1) c w).mono ?_
  rintro e w2 ⟨rfl, rfl⟩
  go_wp2_with fail
  rw [mSwap hb hc]
  go_wp2_with fail
  refine (swap_calls l 0 m (A := A) (c := c) hl (by omega) (by omega)).mono ?_
  rintro e w3 ⟨rfl, hs3, ho3⟩
  have hb3 : HB w3 z t cs := inferInstance
  go_wp2_with fail
  refine (down_calls (A := A) (c := c) m (swp bm0 l 0 m) 0 m hc (by rw [swp_len]; exact hl) (by omega) (by omega) (by omega) (by omega)).mono ?_
  rintro e w4 ⟨⟨b, rfl⟩, hs4, ho4⟩
  have hb4 : HB w4 z t cs := inferInstance
  go_wp2_with fail
  refine (qpop_calls (A := A) (c := c) (downL bm0 ahB m (swp bm0 l 0 m) 0 m) hc hcs (by rw [downL_len, swp_len]; exact hl) (by omega)).mono ?_
  rintro e w5 ⟨rfl, hs5, hb5, ho5⟩
  go_wp2_with fail
  go_ret
  have hC : Chg (zr z A) w w5 := (hs3.chg.trans hs4.chg (fun _ _ h => h)).mono (fun _ _ h => .inr h) |>.trans hs5.chg (fun _ _ h => h)
  exact ⟨⟨_, rfl⟩, ⟨hC⟩, hb5, ho5⟩
end Go.Proofs.Ythoipeamdolfgaa
