/- The law's own small helpers: spoil, roomy, stands. -/
import Derived.Test.YthoipeamdolfgaaDoorOcFrs
open Go Go.RowKit
namespace Go.Proofs.YthoipeamdolfgaaDoor
set_option maxRecDepth 100000 in
set_option maxHeartbeats 400000 in
theorem spoil_calls (A : Option Addr) (n c : Nat) (vs : List Value) (w : World) (ho : Own w 5 1 A n c vs) (hx : n ≤ 1000000000) :
    Calls Tryd.prog 11 #[.slice A n c] w fun e w' => e = .returned (.tuple #[]) ∧ Hid (Chg (fun k => ∃ ad, A = some ad ∧ ad.block = k) w w') := by
  have HO := Lib.hid ho
  have HX := Lib.hid hx
  have HB : Hid (n + 1 ≤ lim) := hid_lim (by omega)
  have hn9 : n ≤ 9223372036854775806 := by omega
  clear ho hx
  go_enter Tryd.func11, Tryd.ntmps11
  go_wp2_with (at_builtin; refine wpList_append_one rfl (.tmp 4) (.tmp 5) elemB rfl (Nat.le_refl _) rfl (HO.out.alloc _) rfl (Rd.lit _ [_] _) rfl HB ?_)
  intro A2 c2 w2 hown2 hchg2 hA2
  rcases hown2.form with ⟨_, h0, _⟩ | ⟨g, cur, rfl, hb, h3, h4, h5, h6⟩
  · omega
  have hS : Hid (∀ ad, (some (⟨g, 0, none⟩ : Addr)) = some ad → ad.block < w.heap.size → ∃ ad', A = some ad' ∧ ad'.block = ad.block) := Lib.hid (by
    intro ad e hl
    rcases hA2 with h | h
    · exact ⟨ad, by rw [← h]; exact e, rfl⟩
    · injection h with h
      injection e with e
      subst e
      have : g = w.heap.size + 1 := by injection h
      simp at hl
      omega)
  have HC := Lib.hid ((((Chg.refl nowhere w).alloc (.cells #[.int .u8 99] 5)).mono (fun _ _ h => h.elim)).trans (S := fun k => ∃ ad, A = some ad ∧ ad.block = k) hchg2 (fun _ _ h => h))
  have HBLK := Lib.hid hb
  have hsz : n + 1 ≤ cur.size := by omega
  have HSZ := Lib.hid hsz
  clear hown2 hchg2 hA2 hb h3 h4 h5 h6 hsz
  go_wp2_with fail
  go_loopw [3] (fun t wr => ∃ (k : Nat) (cur : Array Value), k ≤ n + 1 ∧ t = .int .i64 k ∧ Blk wr g 5 cur ∧ n + 1 ≤ cur.size ∧ Chg (fun k => ∃ ad, A = some ad ∧ ad.block = k) w wr) (fun t _ => n + 1 - (intOf t).toNat)
  case atStart => exact ⟨0, cur, Nat.zero_le _, rfl, HBLK.out, HSZ.out, HC.out⟩
  case round =>
    obtain ⟨k, cu, hk, rfl, hb, hs, hc⟩ := hrel
    by_cases hlt : k < n + 1
    · have e1 : (k : Int) < n + 1 := by omega
      have hc0 : wr.cell? ⟨g, k, none⟩ = some cu[k] := by rw [hb.cell k]; simp [show k < cu.size by omega]
      have hf0 : wr.frozen? ⟨g, k, none⟩ = false := hb.frozen k
      generalize cu[k] = old at hc0
      have HB := Lib.hid (hb.set_ k (.int .u8 98))
      have HS := Lib.hid hs
      have HC2 := Lib.hid (hc.setCell (p := ⟨g, k, none⟩) (fun h => hS.out ⟨g, 0, none⟩ rfl h) (.int .u8 98))
      clear hb hs hc
      go_wp2_with fail
      exact ⟨⟨k + 1, _, by omega, by go_num, HB.out, by simpa using HS.out, HC2.out⟩, by simp [intOf]; omega⟩
    · have e1 : ((n : Int) + 1) ≤ k := by omega
      have HC2 := Lib.hid hc
      clear hb hs hc
      go_wp2_with fail
      go_end0
      exact ⟨rfl, HC2.out⟩
set_option maxRecDepth 100000 in
set_option maxHeartbeats 400000 in
theorem roomy_calls (A : Option Addr) (n c : Nat) (xs : List UInt8) (w : World) (hr : Rd w A (bs xs)) (hn : xs.length = n) (hx : n ≤ 1000000000) :
    Calls Tryd.prog 4 #[.slice A n c] w fun e w' => ∃ A' c', e = .returned (.slice A' (n + 1) c') ∧ Hid (Fresh w w' A' (n + 1) c' (xs ++ [171])) := by
  have HR := Lib.hid hr
  have HM : Hid ((bs xs).length = n) := Lib.hid (by rw [bs_length]; exact hn)
  have HB0 : Hid (0 + n ≤ lim) := hid_lim (by omega)
  have HB1 : Hid (n + 1 ≤ lim) := hid_lim (by omega)
  have HB2 : Hid (n + 1 + 1 ≤ lim) := hid_lim (by omega)
  have hn9 : n ≤ 9223372036854775800 := by omega
  have HN := Lib.hid hn
  clear hr hn hx
  go_enter Tryd.func4, Tryd.ntmps4
  go_wp2_with (at_builtin; refine wpList_append_many rfl (.tmp 3) (.tmp 4) elemB rfl (Nat.le_refl _) rfl (elem_nil _) rfl (HR.out.alloc _) HM (bs_one xs) HB0 ?_)
  intro A1 c1 w1 hown1 hchg1 hA1
  have HF1 : Hid (Fresh w w1 A1 n c1 xs) := Lib.hid ⟨hown1, HN.out.symm, ((Chg.refl nowhere w).alloc (.cells #[] 5)).trans hchg1 (fun x hx h => by
      have h' : w.heap.size = x := h
      omega), fun ad e => by
      rcases hA1 with h | h
      · rw [e] at h
        injection h with h
        rw [h]
        exact Nat.le_refl _
      · rw [e] at h
        injection h with h
        rw [h]
        exact Nat.le_succ _⟩
  clear hown1 hchg1 hA1
  go_wp2_with (at_builtin; refine wpList_append_one rfl (.tmp 5) (.tmp 6) elemB rfl (Nat.le_refl _) rfl (HF1.out.own.alloc _) rfl (Rd.lit _ [_] _) rfl HB1 ?_)
  intro A2 c2 w2 hown2 hchg2 hA2
  rw [show bs xs ++ [Value.int .u8 171] = bs (xs ++ [171]) by simp [bs, u8v]] at hown2
  have HF2 := Lib.hid (HF1.out.push ((Chg.refl nowhere _).alloc _) hchg2 hown2 (by simp [HN.out]) (hA2.imp id fun h => ⟨_, h, by omega⟩))
  clear hown2 hchg2 hA2
  go_wp2_with (at_builtin; refine wpList_append_one rfl (.tmp 7) (.tmp 8) elemB rfl (Nat.le_refl _) rfl (HF2.out.own.alloc _) rfl (Rd.lit _ [_] _) rfl HB2 ?_)
  intro A3 c3 w3 hown3 hchg3 hA3
  rw [show bs (xs ++ [171]) ++ [Value.int .u8 171] = bs (xs ++ [171] ++ [171]) by simp [bs, u8v]] at hown3
  have HF3 := Lib.hid (HF2.out.push ((Chg.refl nowhere _).alloc _) hchg3 hown3 (by simp [HN.out]) (hA3.imp id fun h => ⟨_, h, by omega⟩))
  have hc3 : n + 1 ≤ c3 := by rcases hown3.form with ⟨_, h, _⟩ | ⟨_, _, _, _, h, _⟩ <;> omega
  clear hown3 hchg3 hA3
  go_wp2_with fail
  go_ret
  refine ⟨A3, c3, rfl, ?_⟩
  have h := HF3.out
  refine ⟨?_, by simp [HN.out], h.chg, h.new⟩
  have h1 := h.own.cutTo (m := n + 1) (by omega)
  rw [bs_take, Nat.mul_one, List.take_left' (by simp [HN.out])] at h1
  exact h1
set_option maxRecDepth 100000 in
set_option maxHeartbeats 400000 in
theorem stands_calls (A B : Option Addr) (n c d : Nat) (xs : List UInt8) (w : World) (hx : xs.length = n) (hn : n ≤ 1000000000) (ho : Own w 5 1 A (n + 1) c (bs (xs ++ [171]))) (hb : Rd w B (bs xs)) :
    Calls Tryd.prog 21 #[.slice A (n + 1) c, .slice B n d] w fun e w' => e = .returned (.bool true) ∧ ∃ k, w' = w.drewN k := by
  have hrd := ho.rd
  have hcap : n ≤ c := by rcases ho.form with ⟨_, h, h', _⟩ | ⟨_, _, _, _, h, _⟩ <;> omega
  have h1 : Rd w A (bs xs) := by
    have := hrd.take n
    rwa [bs_take, List.take_left' hx] at this
  obtain ⟨ad, b, rfl, hbn, hcn⟩ := hrd.byte (k := n) (by simp; omega)
  have hb171 : b = 171 := by
    rw [List.getElem?_append_right (by omega), hx, Nat.sub_self] at hbn
    injection hbn with hbn
    exact hbn.symm
  subst hb171
  have hcn' : w.cell? (ad.add n) = some (.int .u8 171) := hcn
  have H1 := Lib.hid h1
  have HB := Lib.hid hb
  have HX := Lib.hid hx
  have hn9 : n ≤ 9223372036854775800 := by omega
  clear hrd ho h1 hb hbn hcn hx
  go_enter Tryd.func21, Tryd.ntmps21
  go_wp2_with fail
  refine (same_calls (some ad) B n n c d xs xs _ HX.out HX.out (by omega) H1.out HB.out).mono ?_
  rintro e w1 ⟨he, k, rfl⟩
  rw [decide_eq_true rfl] at he
  subst he
  go_wp2_with fail
  go_ret
  exact ⟨rfl, k, rfl⟩
end Go.Proofs.YthoipeamdolfgaaDoor
