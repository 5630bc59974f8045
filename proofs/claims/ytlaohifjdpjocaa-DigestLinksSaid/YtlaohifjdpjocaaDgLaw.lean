/- The law's own small helpers (ostlerlaw2): same, roomy, stands; what it knows by heart. -/
import Derived.Test.YtlaohifjdpjocaaDgHex
import Derived.Test.YtlaohifjdpjocaaFr
open Go Go.RowKit
namespace Go.Proofs.Ytlaohifjdpjocaa
set_option maxRecDepth 100000 in
set_option maxHeartbeats 400000 in
theorem same_calls (A B : Option Addr) (n m c d : Nat) (xs ys : List UInt8) (w : World) (hx : xs.length = n) (hy : ys.length = m) (hn : n ≤ 9223372036854775807) (ha : Rd w A (bs xs)) (hb : Rd w B (bs ys)) :
    Calls Try.prog 57 #[.slice A n c, .slice B m d] w fun e w' => e = .returned (.bool (decide (xs = ys))) ∧ ∃ k, w' = w.drewN k := by
  by_cases hnm : n = m
  · subst hnm
    have HX := Lib.hid hx
    have HY := Lib.hid hy
    have HA := Lib.hid ha
    have HB := Lib.hid hb
    clear hx hy ha hb
    go_enter Try.func57, Try.ntmps57
    go_wp2
    go_loopw [5] (fun i wr => ∃ k : Nat, k ≤ n ∧ i = .int .i64 k ∧ xs.take k = ys.take k ∧ ∃ q, wr = w.drewN q) (fun i _ => n - (intOf i).toNat)
    case atStart => exact ⟨0, Nat.zero_le _, rfl, by simp, 0, rfl⟩
    case round =>
      obtain ⟨k, hk, rfl, htk, q, rfl⟩ := hrel
      by_cases hlt : k < n
      · obtain ⟨a, x, rfl, hxk, hca⟩ := HA.out.byte (k := k) (by have := HX.out; omega)
        obtain ⟨b, y, rfl, hyk, hcb⟩ := HB.out.byte (k := k) (by have := HY.out; omega)
        have HXK := Lib.hid hxk
        have HYK := Lib.hid hyk
        have HTK := Lib.hid htk
        clear hxk hyk htk
        have e1 : (k : Int) < n := by omega
        go_wp2
        go_quiet (fail)
        go_wp2
        · have hne : ((x.toNat : Int) != (y.toNat : Int)) = true := by assumption
          go_ret
          refine ⟨?_, q + nq, World.drewN_drewN _ _ _⟩
          rw [decide_eq_false (by
            intro h
            subst h
            have h1 := HXK.out
            rw [HYK.out] at h1
            injection h1 with h1
            subst h1
            simp at hne)]
          rfl
        · have heq : ((x.toNat : Int) != (y.toNat : Int)) = false := by assumption
          refine ⟨⟨k + 1, by omega, by go_num, ?_, q + nq, rfl⟩, by simp [intOf]; omega⟩
          have hxy : x = y := by simpa [UInt8.toNat_inj, Int.ofNat_inj] using heq
          have h1 := HXK.out
          have h2 := HYK.out
          rw [List.take_add_one, List.take_add_one, HTK.out, h1, h2, hxy]
      · go_wp2
        go_ret
        refine ⟨?_, q, rfl⟩
        have hkn : k = n := by omega
        subst hkn
        have h1 := HX.out
        have h2 := HY.out
        rw [List.take_of_length_le (by omega), List.take_of_length_le (by omega)] at htk
        subst htk
        simp
  · have hne : ((n : Int) != (m : Int)) = true := by simp; omega
    go_enter Try.func57, Try.ntmps57
    go_wp2
    go_ret
    refine ⟨?_, 0, rfl⟩
    rw [decide_eq_false (by rintro rfl; exact hnm (hx.symm.trans hy))]
    rfl
set_option maxRecDepth 100000 in
set_option maxHeartbeats 400000 in
theorem roomy_calls (A : Option Addr) (n c : Nat) (xs : List UInt8) (w : World) (hr : Rd w A (bs xs)) (hn : xs.length = n) (hx : n ≤ 1000000000) :
    Calls Try.prog 18 #[.slice A n c] w fun e w' => ∃ A' c', e = .returned (.slice A' (n + 1) c') ∧ Hid (Fresh w w' A' (n + 1) c' (xs ++ [171])) := by
  have HR := Lib.hid hr
  have HM : Hid ((bs xs).length = n) := Lib.hid (by rw [bs_length]; exact hn)
  have HB0 : Hid (0 + n ≤ lim) := hid_lim (by omega)
  have HB1 : Hid (n + 1 ≤ lim) := hid_lim (by omega)
  have HB2 : Hid (n + 1 + 1 ≤ lim) := hid_lim (by omega)
  have hn9 : n ≤ 9223372036854775800 := by omega
  have HN := Lib.hid hn
  clear hr hn hx
  go_enter Try.func18, Try.ntmps18
  go_wp2_with (at_builtin; refine wpList_append_many rfl (.tmp 3) (.tmp 4) elemB rfl (Nat.le_refl _) rfl (elem_nil _) rfl (HR.out.alloc _) HM (bs_one xs) HB0 ?_)
  intro A1 c1 w1 hown1 hchg1 hA1
  have HF1 : Hid (Fresh w w1 A1 n c1 xs) := Lib.hid ⟨hown1, HN.out.symm, ((Chg.refl nowhere w).alloc (.cells #[] 5)).trans hchg1 (fun x hx h => by
      have h' : w.heap.size = x := h
      omega), fun ad e => by
      rcases hA1 with h | h
      · rw [e] at h
        injection h with h
        rw [h]
        exact Nat.le_refl _
      · rw [e] at h
        injection h with h
        rw [h]
        exact Nat.le_succ _⟩
  clear hown1 hchg1 hA1
  go_wp2_with (at_builtin; refine wpList_append_one rfl (.tmp 5) (.tmp 6) elemB rfl (Nat.le_refl _) rfl (HF1.out.own.alloc _) rfl (Rd.lit _ [_] _) rfl HB1 ?_)
  intro A2 c2 w2 hown2 hchg2 hA2
  rw [show bs xs ++ [Value.int .u8 171] = bs (xs ++ [171]) by simp [bs, u8v]] at hown2
  have HF2 := Lib.hid (HF1.out.push ((Chg.refl nowhere _).alloc _) hchg2 hown2 (by simp [HN.out]) (hA2.imp id fun h => ⟨_, h, by omega⟩))
  clear hown2 hchg2 hA2
  go_wp2_with (at_builtin; refine wpList_append_one rfl (.tmp 7) (.tmp 8) elemB rfl (Nat.le_refl _) rfl (HF2.out.own.alloc _) rfl (Rd.lit _ [_] _) rfl HB2 ?_)
  intro A3 c3 w3 hown3 hchg3 hA3
  rw [show bs (xs ++ [171]) ++ [Value.int .u8 171] = bs (xs ++ [171] ++ [171]) by simp [bs, u8v]] at hown3
  have HF3 := Lib.hid (HF2.out.push ((Chg.refl nowhere _).alloc _) hchg3 hown3 (by simp [HN.out]) (hA3.imp id fun h => ⟨_, h, by omega⟩))
  have hc3 : n + 1 ≤ c3 := by rcases hown3.form with ⟨_, h, _⟩ | ⟨_, _, _, _, h, _⟩ <;> omega
  clear hown3 hchg3 hA3
  go_wp2_with fail
  go_ret
  refine ⟨A3, c3, rfl, ?_⟩
  have h := HF3.out
  refine ⟨?_, by simp [HN.out], h.chg, h.new⟩
  have h1 := h.own.cutTo (m := n + 1) (by omega)
  rw [bs_take, Nat.mul_one, List.take_left' (by simp [HN.out])] at h1
  exact h1
set_option maxRecDepth 100000 in
set_option maxHeartbeats 400000 in
theorem stands_calls (A B : Option Addr) (n c d : Nat) (xs : List UInt8) (w : World) (hx : xs.length = n) (hn : n ≤ 1000000000) (ho : Own w 5 1 A (n + 1) c (bs (xs ++ [171]))) (hb : Rd w B (bs xs)) :
    Calls Try.prog 21 #[.slice A (n + 1) c, .slice B n d] w fun e w' => e = .returned (.bool true) ∧ ∃ k, w' = w.drewN k := by
  have hrd := ho.rd
  have hcap : n ≤ c := by rcases ho.form with ⟨_, h, h', _⟩ | ⟨_, _, _, _, h, _⟩ <;> omega
  have h1 : Rd w A (bs xs) := by
    have := hrd.take n
    rwa [bs_take, List.take_left' hx] at this
  obtain ⟨ad, b, rfl, hbn, hcn⟩ := hrd.byte (k := n) (by simp; omega)
  have hb171 : b = 171 := by
    rw [List.getElem?_append_right (by omega), hx, Nat.sub_self] at hbn
    injection hbn with hbn
    exact hbn.symm
  subst hb171
  have hcn' : w.cell? (ad.add n) = some (.int .u8 171) := hcn
  have H1 := Lib.hid h1
  have HB := Lib.hid hb
  have HX := Lib.hid hx
  have hn9 : n ≤ 9223372036854775800 := by omega
  clear hrd ho h1 hb hbn hcn hx
  go_enter Try.func21, Try.ntmps21
  go_wp2_with fail
  refine (same_calls (some ad) B n n c d xs xs _ HX.out HX.out (by omega) H1.out HB.out).mono ?_
  rintro e w1 ⟨he, k, rfl⟩
  rw [decide_eq_true rfl] at he
  subst he
  go_wp2_with fail
  go_ret
  exact ⟨rfl, k, rfl⟩
theorem sha_abc : hexOf (sha [97, 98, 99]) = [98, 97, 55, 56, 49, 54, 98, 102, 56, 102, 48, 49, 99, 102, 101, 97, 52, 49, 52, 49, 52, 48, 100, 101, 53, 100, 97, 101, 50, 50, 50, 51, 98, 48, 48, 51, 54, 49, 97, 51, 57, 54, 49, 55, 55, 97, 57, 99, 98, 52, 49, 48, 102, 102, 54, 49, 102, 50, 48, 48, 49, 53, 97, 100] := by decide +kernel
def fox : List UInt8 := [84, 104, 101, 32, 113, 117, 105, 99, 107, 32, 98, 114, 111, 119, 110, 32, 102, 111, 120, 32, 106, 117, 109, 112, 115, 32, 111, 118, 101, 114, 32, 116, 104, 101, 32, 108, 97, 122, 121, 32, 100, 111, 103]
theorem mac_fox : hexOf (macOf [107, 101, 121] fox) = [102, 55, 98, 99, 56, 51, 102, 52, 51, 48, 53, 51, 56, 52, 50, 52, 98, 49, 51, 50, 57, 56, 101, 54, 97, 97, 54, 102, 98, 49, 52, 51, 101, 102, 52, 100, 53, 57, 97, 49, 52, 57, 52, 54, 49, 55, 53, 57, 57, 55, 52, 55, 57, 100, 98, 99, 50, 100, 49, 97, 51, 99, 100, 56] := by decide +kernel
theorem conv_second (w : World) (o : Obj) (C : Array Value) (n c : Nat) :
    (convert 22 22 (.slice (some ⟨w.heap.size + 1, 0, none⟩) n c)).run Try.prog ((w.alloc o).alloc (.cells C 5)) =
      .ok (.slice (some ⟨w.heap.size + 1, 0, none⟩) n c) ((w.alloc o).alloc (.cells C 5 (C.size, C.size + 1))) := by
  have h := Lib.run_convert_bytes_const (P := Try.prog) (w.alloc o) 22 5 C n c Try.underlying22 Try.underlying5
  simpa using h
set_option maxRecDepth 100000 in
set_option maxHeartbeats 800000 in
theorem known_calls (w : World) :
    Calls Try.prog 22 #[] w fun e w' => e = .returned (.bool true) ∧ Hid (Chg nowhere w w') := by
  have kc := fun (w : World) (C : Array Value) (n c : Nat) => Lib.run_convert_bytes_const (P := Try.prog) w 22 5 C n c Try.underlying22 Try.underlying5
  have kc1 := fun (w : World) (o : Obj) (C : Array Value) (n c : Nat) => conv_second w o C n c
  go_enter Try.func22, Try.ntmps22
  go_wp2_with fail
  refine (dSum_calls _ 3 3 [97, 98, 99] _ (Rd.lit _ [_, _, _] _) rfl (Nat.le_refl _) (by decide)).mono ?_
  rintro e w1 ⟨rfl, hc1⟩
  have HC1 := Lib.hid (((Chg.refl nowhere w).alloc (.cells #[.int .u8 97, .int .u8 98, .int .u8 99] 5 (3, 4))).step hc1.out (fun _ h => h.elim))
  clear hc1
  go_wp2_with fail
  refine (hex_calls _ _ (sha_len _)).mono ?_
  rintro e w2 ⟨rfl, hc2⟩
  rw [sha_abc]
  have HC2 := Lib.hid (HC1.out.step hc2.out (fun _ h => h.elim))
  clear hc2
  go_wp2_with fail
  refine (mac_calls _ _ 3 3 43 43 [107, 101, 121] fox _ ((Rd.lit w2 [_, _, _] _).alloc _) rfl (Nat.le_refl _) (by decide) ?_ rfl (by decide)).mono ?_
  · exact Rd.lit' _ _ (bs fox) _ (by simp)
  rintro e w3 ⟨rfl, hc3⟩
  have HC3 := Lib.hid (((HC2.out.alloc (.cells #[.int .u8 107, .int .u8 101, .int .u8 121] 5 (3, 4))).alloc (.cells (bs fox).toArray 5 (43, 44))).step hc3.out (fun _ h => h.elim))
  clear hc3
  go_wp2_with fail
  refine (hex_calls _ _ (macOf_len _ _)).mono ?_
  rintro e w4 ⟨rfl, hc4⟩
  rw [mac_fox]
  have HC4 := Lib.hid (HC3.out.step hc4.out (fun _ h => h.elim))
  clear hc4
  go_wp2_with fail
  go_ret
  exact ⟨rfl, HC4⟩
end Go.Proofs.Ytlaohifjdpjocaa
