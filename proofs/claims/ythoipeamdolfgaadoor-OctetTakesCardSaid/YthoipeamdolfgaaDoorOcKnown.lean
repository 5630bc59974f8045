/- Two rows of bytes compared (the law's own same); what the law knows by heart (its own known). -/
import Derived.Test.YthoipeamdolfgaaDoorOcSum
open Go Go.RowKit
namespace Go.Proofs.YthoipeamdolfgaaDoor
set_option maxRecDepth 100000 in
set_option maxHeartbeats 400000 in
theorem same_calls (A B : Option Addr) (n m c d : Nat) (xs ys : List UInt8) (w : World) (hx : xs.length = n) (hy : ys.length = m) (hn : n ≤ 9223372036854775807) (ha : Rd w A (bs xs)) (hb : Rd w B (bs ys)) :
    Calls Tryd.prog 9 #[.slice A n c, .slice B m d] w fun e w' => e = .returned (.bool (decide (xs = ys))) ∧ ∃ k, w' = w.drewN k := by
  by_cases hnm : n = m
  · subst hnm
    have HX := Lib.hid hx
    have HY := Lib.hid hy
    have HA := Lib.hid ha
    have HB := Lib.hid hb
    clear hx hy ha hb
    go_enter Tryd.func9, Tryd.ntmps9
    go_wp2
    go_loopw [5] (fun i wr => ∃ k : Nat, k ≤ n ∧ i = .int .i64 k ∧ xs.take k = ys.take k ∧ ∃ q, wr = w.drewN q) (fun i _ => n - (intOf i).toNat)
    case atStart => exact ⟨0, Nat.zero_le _, rfl, by simp, 0, rfl⟩
    case round =>
      obtain ⟨k, hk, rfl, htk, q, rfl⟩ := hrel
      by_cases hlt : k < n
      · obtain ⟨a, x, rfl, hxk, hca⟩ := HA.out.byte (k := k) (by have := HX.out; omega)
        obtain ⟨b, y, rfl, hyk, hcb⟩ := HB.out.byte (k := k) (by have := HY.out; omega)
        have HXK := Lib.hid hxk
        have HYK := Lib.hid hyk
        have HTK := Lib.hid htk
        clear hxk hyk htk
        have e1 : (k : Int) < n := by omega
        go_wp2
        go_quiet (fail)
        go_wp2
        · have hne : ((x.toNat : Int) != (y.toNat : Int)) = true := by assumption
          go_ret
          refine ⟨?_, q + nq, World.drewN_drewN _ _ _⟩
          rw [decide_eq_false (by
            intro h
            subst h
            have h1 := HXK.out
            rw [HYK.out] at h1
            injection h1 with h1
            subst h1
            simp at hne)]
          rfl
        · have heq : ((x.toNat : Int) != (y.toNat : Int)) = false := by assumption
          refine ⟨⟨k + 1, by omega, by go_num, ?_, q + nq, rfl⟩, by simp [intOf]; omega⟩
          have hxy : x = y := by simpa [UInt8.toNat_inj, Int.ofNat_inj] using heq
          have h1 := HXK.out
          have h2 := HYK.out
          rw [List.take_add_one, List.take_add_one, HTK.out, h1, h2, hxy]
      · go_wp2
        go_ret
        refine ⟨?_, q, rfl⟩
        have hkn : k = n := by omega
        subst hkn
        have h1 := HX.out
        have h2 := HY.out
        rw [List.take_of_length_le (by omega), List.take_of_length_le (by omega)] at htk
        subst htk
        simp
  · have hne : ((n : Int) != (m : Int)) = true := by simp; omega
    go_enter Tryd.func9, Tryd.ntmps9
    go_wp2
    go_ret
    refine ⟨?_, 0, rfl⟩
    rw [decide_eq_false (by rintro rfl; exact hnm (hx.symm.trans hy))]
    rfl
theorem known_head : encAll [1, 300] = [1, 172, 2] := by
  have h1 : clampN 1 = 1 := by decide
  have h2 : clampN 300 = 300 := by decide
  simp only [encAll, List.flatMap_cons, List.flatMap_nil, h1, h2]
  rw [enc_small (n := 1) (by decide), enc_large (n := 300) (by decide), enc_small (n := 300 / 128) (by decide)]
  decide
theorem known_bytes (A : Option Addr) (c : Nat) : [] ++ encAll [1, 300] ++ encRows [⟨A, c, [97]⟩] = [1, 172, 2, 1, 97] := by
  simp only [known_head, encRows, List.flatMap_cons, List.flatMap_nil, encRow, List.length_cons, List.length_nil]
  rw [enc_small (n := 0 + 1) (by decide)]
  decide
theorem conv_second (w : World) (o : Obj) (C : Array Value) (n c : Nat) :
    (convert 22 22 (.slice (some ⟨w.heap.size + 1, 0, none⟩) n c)).run Tryd.prog ((w.alloc o).alloc (.cells C 5)) =
      .ok (.slice (some ⟨w.heap.size + 1, 0, none⟩) n c) ((w.alloc o).alloc (.cells C 5 (C.size, C.size + 1))) := by
  have h := Lib.run_convert_bytes_const (P := Tryd.prog) (w.alloc o) 22 5 C n c Tryd.underlying22 Tryd.underlying5
  simpa using h
theorem WrAt.new (w : World) : WrAt (w.alloc (.cells #[.slice none 0 0] 45)) w.heap.size none [] :=
  ⟨⟨0, 0, rfl, Blk.new w _ _, Own.nil _ _ _⟩, fun ad h => by cases h⟩
set_option maxRecDepth 100000 in
set_option maxHeartbeats 400000 in
theorem known_calls (w : World) (hT : TabOk w) :
    Calls Tryd.prog 22 #[] w fun e w' => e = .returned (.bool true) ∧ Chg nowhere w w' := by
  have HT := Lib.hid hT
  clear hT
  have kc := fun (w : World) (C : Array Value) (n c : Nat) => Lib.run_convert_bytes_const (P := Tryd.prog) w 22 5 C n c Tryd.underlying22 Tryd.underlying5
  have kc1 := fun (w : World) (o : Obj) (C : Array Value) (n c : Nat) => conv_second w o C n c
  go_enter Tryd.func22, Tryd.ntmps22
  go_wp2_with fail
  refine (Nums_calls w.heap.size none [] _ _ _ [1, 300] _ ((WrAt.new w).chg (S := nowhere) ((Chg.refl _ _).alloc _) (fun _ _ h => h)) (Rd.lit' _ _ [_, _] _ (by simp)) rfl ((WrAt.new w).fresh (by simp) _) (by simp)).mono ?_
  rintro e w1 ⟨rfl, A1, h1, h2, h3⟩
  have hge : ∀ k, Wf w.heap.size A1 k → w.heap.size ≤ k := wf_ge (wf_new _) (by simp; omega) h3
  have HC := Lib.hid ((((Chg.refl nowhere w).alloc _).alloc _).step h2 (wf_new _))
  have H1 := Lib.hid h1
  have HG := Lib.hid hge
  clear h1 h2 h3 hge
  go_wp2_with fail
  refine (wBytes_calls w.heap.size A1 _ _ _ _ [⟨some ⟨w1.heap.size, 0, none⟩, 1, [97]⟩] _ (H1.out.chg (S := nowhere) (((Chg.refl _ _).alloc _).alloc _) (fun _ _ h => h)) (Rd.lit' _ _ [_] _ (by simp)) rfl (H1.out.fresh (by simp) _) ?_ (by rw [known_head]; simp [rowsSize])).mono ?_
  · intro r hr
    rw [List.mem_singleton.1 hr]
    exact ⟨(Rd.lit w1 [_] _).alloc _, H1.out.fresh (Nat.le_refl _) _⟩
  rintro e w2 ⟨rfl, A2, h1, h2, h3⟩
  have HG2 := Lib.hid (wf_ge HG.out (by have := HC.out.size; simp; omega) h3.out)
  have HC2 := Lib.hid (((HC.out.alloc _).alloc _).step h2.out HG.out)
  clear h2 h3
  go_wp2_with fail
  have h1' := h1.out
  rw [known_bytes] at h1'
  have H1' := Lib.hid h1'
  clear h1 h1'
  refine (Out_calls _ _ _ _ H1'.out (by decide)).mono ?_
  rintro e w3 ⟨A3, n3, c3, rfl, hn3, ho3, hch3, hge3⟩
  have HC3 := Lib.hid (HC2.out.step hch3.out (fun _ h => h.elim))
  clear hch3
  go_wp2_with fail
  have hn3' : n3 = 5 := hn3.out
  subst hn3'
  refine (same_calls A3 _ 5 5 _ _ [1, 172, 2, 1, 97] [1, 172, 2, 1, 97] _ rfl rfl (by decide) (ho3.out.rd.alloc _) (Rd.lit' _ _ [_, _, _, _, _] _ rfl)).mono ?_
  rintro e w4 ⟨rfl, hw4⟩
  have HC4 : Hid (Chg nowhere w w4) := by
    obtain ⟨k4, rfl⟩ := hw4
    exact (HC3.out.alloc _).drewN k4
  clear hw4
  go_wp2_with fail
  have hT4 : TabOk w4 := HT.out.chg HC4.out (fun h => h)
  refine (Sum_calls _ _ _ [⟨some ⟨w4.heap.size, 0, none⟩, 4, [49, 50, 51, 52]⟩, ⟨some ⟨w4.heap.size + 1, 0, none⟩, 5, [53, 54, 55, 56, 57]⟩] _ ?_ (Rd.lit' _ (w4.heap.size + 2) [_, _] _ ?_) rfl ?_ (by simp [rowsSize])).mono ?_
  · exact hT4.chg ((((Chg.refl nowhere w4).alloc _).alloc _).alloc _) (fun h => h)
  · simp
  · intro r hr
    simp only [List.mem_cons, List.not_mem_nil, or_false] at hr
    rcases hr with rfl | rfl
    · exact ((Rd.lit w4 [_, _, _, _] _).alloc _).alloc _
    · exact (Rd.lit' _ _ [_, _, _, _, _] _ (by simp)).alloc _
  rintro e w5 ⟨he, rfl⟩
  rw [crc_known] at he
  subst he
  have HC5 := Lib.hid (((HC4.out.alloc (.cells #[.int .u8 49, .int .u8 50, .int .u8 51, .int .u8 52] 5 (4, 5))).alloc (.cells #[.int .u8 53, .int .u8 54, .int .u8 55, .int .u8 56, .int .u8 57] 5 (5, 6))).alloc (.cells #[.slice (some ⟨w4.heap.size, 0, none⟩) 4 4, .slice (some ⟨w4.heap.size + 1, 0, none⟩) 5 5] 22))
  go_wp2_with fail
  go_ret
  exact ⟨rfl, HC5.out⟩
end Go.Proofs.YthoipeamdolfgaaDoor
