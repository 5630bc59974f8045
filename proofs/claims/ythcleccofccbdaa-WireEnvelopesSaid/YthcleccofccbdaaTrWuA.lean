/- OcWB, WuA -/
import Derived.Test.YthcleccofccbdaaTrOcW
import Derived.Test.YthcleccofccbdaaTrWsB
import Derived.Test.YthcleccofccbdaaTrWnA
section
open Go Go.RowKit
namespace Go.Proofs.Ythcleccofccbdaa
set_option maxRecDepth 100000 in
set_option maxHeartbeats 400000 in
theorem wBytes_calls (g : Nat) (A : Option Addr) (xs : List UInt8) (A2 : Option Addr) (n c2 : Nat) (l : List Row) (w : World) (hw : WrAt w g A xs) (hr : Rd w A2 (rowsV l)) (hn : l.length = n)
    (hA2 : Apart (Wf g A) A2 (rowsV l)) (hrow : ∀ r ∈ l, Rd w r.A (bs r.p) ∧ Apart (Wf g A) r.A (bs r.p)) (hx : xs.length + rowsSize l ≤ 900000000000) :
    Calls Try.prog 181 #[.pointer (some ⟨g, 0, none⟩), .slice A2 n c2] w fun e w' => e = .returned (.tuple #[]) ∧ ∃ A', Hid (WrAt w' g A' (xs ++ encRows l)) ∧
      Hid (Chg (Wf g A) w w') ∧ Hid (Moved w A A') := by
  have hsz := rowsSize_len l
  have HX := Lib.hid hx
  have HN := Lib.hid hn
  have HR := Lib.hid hr
  have HF := Lib.hid hA2
  have HROW := Lib.hid hrow
  have hn9 : n ≤ 9223372036854775807 := by omega
  clear hx hn hr hA2 hrow hsz
  go_enter Try.func181, Try.ntmps181
  go_wp2
  go_loopw [8] (fun t wr => ∃ (k : Nat) (A1 : Option Addr), k ≤ n ∧ t = .int .i64 k ∧ WrAt wr g A1 (xs ++ encRows (l.take k)) ∧
      Chg (Wf g A) w wr ∧ Moved w A A1) (fun t _ => n - (intOf t).toNat)
  case atStart => exact ⟨0, A, Nat.zero_le _, rfl, by simpa [encRows] using hw, Chg.refl _ _, .inl rfl⟩
  case round =>
    obtain ⟨k, A1, hk, rfl, hw1, hchg, hA⟩ := hrel
    have HW1 := Lib.hid hw1
    have HCHG := Lib.hid hchg
    have HA := Lib.hid hA
    clear hw1 hchg hA
    by_cases hlt : k < n
    · have e1 : (k : Int) < n := by omega
      have hkl : k < l.length := by have := HN.out; omega
      obtain ⟨ad, rfl, hc⟩ := (HR.out.chg HCHG.out HF.out) k l[k].v (by simp [rowsV, hkl])
      have hsn := encRows_snoc (l.take k) l[k]
      rw [List.take_append_getElem hkl] at hsn
      have hmem : l[k] ∈ l := List.getElem_mem hkl
      have hq := HROW.out l[k] hmem
      have hsize : rowsSize (l.take k) + (l[k].p.length + 10) ≤ rowsSize l := by
        have h1 := rowsSize_take l k
        rw [List.drop_eq_getElem_cons hkl] at h1
        simp only [rowsSize] at h1
        omega
      have hlen := encRows_len (l.take k) (fun r hr => by
        have h1 := rowsSize_take l k
        have h2 := rowsSize_mem hr
        have := HX.out
        omega)
      rcases hrk : l[k] with ⟨RA, rc, p⟩
      rw [hrk] at hc hsn hq hsize
      have HSN := Lib.hid hsn
      have HQ := Lib.hid hq
      have HS := Lib.hid hsize
      have HLEN := Lib.hid hlen
      clear hsn hq hsize hlen hmem hkl hrk
      have hc' : wr.cell? (ad.add k) = some (.slice RA p.length rc) := hc
      clear hc
      have hp9 : p.length ≤ 9223372036854775807 := by have := HS.out; have := HX.out; simp at *; omega
      go_wp2_with fail
      refine (Nums_calls g A1 _ _ _ _ [(p.length : Int)] _ (HW1.out.chg (S := nowhere) ((Chg.refl _ _).alloc _) (fun _ _ h => h)) (Rd.lit _ [_] _) rfl ?_ ?_).mono ?_
      · exact HW1.out.fresh (Nat.le_refl _) _
      · have h1 := HLEN.out
        have h2 := HS.out
        have h3 := HX.out
        simp at h1 h2 h3 ⊢
        omega
      rintro e w1 ⟨rfl, A3, h1, h2, h3⟩
      obtain ⟨h4, h5⟩ := wf_trans (HCHG.out.alloc _) HA.out h2 h3
      have H1 := Lib.hid h1
      have H4 := Lib.hid h4
      have H5 := Lib.hid h5
      clear h1 h2 h3 h4 h5
      go_wp2_with fail
      refine (wRaw_calls g A3 _ _ _ _ p _ H1.out (HQ.out.1.chg H4.out HQ.out.2) rfl ?_).mono ?_
      · have h1 := HLEN.out
        have h2 := HS.out
        have h3 := HX.out
        have h4 := encAll_len [(p.length : Int)]
        simp at h1 h2 h3 h4 ⊢
        omega
      rintro e w2 ⟨rfl, A4, h1, h2, h3⟩
      go_wp2
      obtain ⟨h4, h5⟩ := wf_trans H4.out H5.out h2.out h3.out
      refine ⟨⟨k + 1, A4, by omega, by go_num, ?_, h4, h5⟩, by simp [intOf]; omega⟩
      have h6 := h1.out
      rw [HSN.out]
      have h7 : encAll [(p.length : Int)] = enc p.length := by
        rw [encAll_one, clampN_nat _ (by have h2 := HS.out; have h3 := HX.out; omega)]
      rw [h7] at h6
      simpa [encRow] using h6
    · have e1 : (n : Int) ≤ k := by omega
      go_wp2
      go_end0
      refine ⟨rfl, A1, ?_, HCHG.out, HA.out⟩
      have := HW1.out
      rwa [List.take_of_length_le (by have := HN.out; omega)] at this
end Go.Proofs.Ythcleccofccbdaa
end
section
open Go Go.RowKit
namespace Go.Proofs.Ythcleccofccbdaa
instance cellWuF : CellT Try.prog 230 := ⟨fun _ => by kernel_rfl, fun _ => by kernel_rfl⟩
instance cellWuR : CellT Try.prog 259 := ⟨fun _ => by kernel_rfl, fun _ => by kernel_rfl⟩
section
variable {P : Program} {ops : Array Oper} {rest : List Oper} {a : Act} {w : World} {Q : Exit → Act → World → Prop} {dst : Option Tmp} {ty : TypeId} {pos : String} {after : Array Edge}
end
theorem run_rowN (B : Option Addr) (n c : Nat) (w : World) : (Instr.buildSlice 259 1 #[(0, .slice B n c)]).run Try.prog w = .ok (.slice (some ⟨w.heap.size, 0, none⟩) 1 1) (w.alloc (.cells #[.slice B n c] 28)) := by kernel_rfl
set_option maxRecDepth 100000 in
theorem laidR1_calls {w : World} {g bl bv zr n c : Nat} {A B : Option Addr} {xs ys : List UInt8} {fx : FuncId} {t1 t2 t3 : TypeId} (hf : fx = 181) (hw : WrAt w g A xs) [hbl : HB w bl t1 #[.func (.func fx) #[] #[]]] [hbv : HB w bv t2 #[.slice (some ⟨zr, 0, none⟩) 1 1]] [hbz : HB w zr t3 #[.slice B n c]] (hr : Rd w B (bs ys)) (hn : ys.length = n) (hz : ¬ Wf g A zr) (hB : Apart (Wf g A) B (bs ys)) (hx : xs.length + ys.length ≤ 10000000000) :
    Calls Try.prog 217 #[.pointer (some ⟨g, 0, none⟩), .pointer (some ⟨bl, 0, none⟩), .pointer (some ⟨bv, 0, none⟩)] w fun e w' => e = .returned (.tuple #[]) ∧ ∃ A', WrAt w' g A' (xs ++ encRow ys) ∧ Chg (Wf g A) w w' ∧ Moved w A A' := by
  subst hf
  subst hn
  go_enter Try.func217, Try.ntmps217
  go_wp2_with (first | ((with_reducible apply wpl_loadrow); (exact rfl); infer_instance; infer_instance; (first | (with_reducible assumption) | (with_reducible exact H32.size _) | kernel_rfl)) | ((with_reducible apply wpl_loadcellN); (exact rfl); infer_instance; (exact rfl)))
  refine (wBytes_calls g A xs (some ⟨zr, 0, none⟩) 1 1 [⟨B, c, ys⟩] w hw hbz.rdL rfl ?_ ?_ ?_).mono ?_
  · rintro _ ad e hk
    injection e with e
    subst e
    exact hz hk
  · intro r hm
    rw [List.mem_singleton.1 hm]
    exact ⟨hr, hB⟩
  · simp only [rowsSize]
    omega
  rintro e w5 ⟨rfl, A5, h5, h6, h7⟩
  go_wp2_with fail
  go_end0
  refine ⟨rfl, A5, ?_, h6.out, h7.out⟩
  have h8 := h5.out
  rwa [show encRows [(⟨B, c, ys⟩ : Row)] = encRow ys by simp [encRows]] at h8
end Go.Proofs.Ythcleccofccbdaa
end
