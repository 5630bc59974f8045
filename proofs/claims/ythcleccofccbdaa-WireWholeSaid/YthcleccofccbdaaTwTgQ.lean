/- TgQ -/
import Derived.Test.YthcleccofccbdaaTwTgP
open Go Go.RowKit
namespace Go.Proofs.Ythcleccofccbdaa
abbrev DlM := List UInt8 × (List H32 × Int) × List UInt8 × Bool
def DeleR.m (d : DeleR) : DlM := (d.l, d.k.m, d.pre, d.last)
/-- the way to take one -/
def dlTk (s : RS) : DlM × RS := ((s.row.1, (kL s.row.2, (kD s.row.2 : Int)), (kR s.row.2).row.1, fgV (kR s.row.2).row.2), fgS (kR s.row.2).row.2)
def dlME (x : DlM) : List UInt8 := encRow x.1 ++ (keyB x.2.1.1 x.2.1.2 ++ (encRow x.2.2.1 ++ flagE x.2.2.2))
theorem dlTakes : Takes dlTk dlME := ⟨fun s => by
  have h1 := RS.row_le s
  have h2 := kR_le s.row.2
  have h3 := RS.row_le (kR s.row.2)
  have h4 := fgS_le (kR s.row.2).row.2
  show (fgS (kR s.row.2).row.2).b.length ≤ _
  omega, fun s h => by
  obtain ⟨d1, d2⟩ := fg_back (s := (kR s.row.2).row.2) h
  obtain ⟨c1, c2⟩ := row_back (s := kR s.row.2) d1
  obtain ⟨b1, b2⟩ := key_back (s := s.row.2) c1
  obtain ⟨a1, a2⟩ := row_back (s := s) b1
  refine ⟨a1, ?_⟩
  show s.b = (encRow s.row.1 ++ (keyB (kL s.row.2) (kD s.row.2 : Int) ++ (encRow (kR s.row.2).row.1 ++ flagE (fgV (kR s.row.2).row.2)))) ++ (fgS (kR s.row.2).row.2).b
  rw [List.append_assoc, List.append_assoc, List.append_assoc, ← d2, ← c2, ← b2]
  exact a2⟩
theorem run_dlB (l pre : List UInt8) (k : KR) (b : Bool) (w : World) : (Instr.build 138 #[(0, .string (strL l)), (1, .agg (RowC.enc k).toArray), (2, .string (strL pre)), (3, .bool b)]).run Try.prog w = .ok (.agg (RowC.enc (⟨l, k, pre, b⟩ : DeleR)).toArray) w := by kernel_rfl
set_option maxRecDepth 100000 in
set_option maxHeartbeats 3200000 in
theorem takeDele_calls {g d : Nat} {s : RS} {w : World} (hw : RdrAt w g d s) (hl : s.b.length ≤ 140737488351232) :
    Calls Try.prog 150 #[.pointer (some ⟨g, 0, none⟩)] w fun e w' => ∃ x : DeleR, e = .returned (.agg (RowC.enc x).toArray) ∧ Step (only g) w w' ∧ Hid (RdrAt w' g d (dlTk s).2) ∧ Hid (x.m = (dlTk s).1) ∧ DIn w' x ∧ NewA w x.k.A := by
  have HW0 := Lib.hid hw
  have HL := Lib.hid hl
  have hgl := hw.lt
  have hdl := hw.dlt
  have hpl := dlTakes.le s
  obtain ⟨s1, hs1⟩ : ∃ x, x = s.row.2 := ⟨_, rfl⟩
  obtain ⟨s2, hs2⟩ : ∃ x, x = kR s1 := ⟨_, rfl⟩
  obtain ⟨s3, hs3⟩ : ∃ x, x = s2.row.2 := ⟨_, rfl⟩
  have e1 : s1.b.length ≤ s.b.length := by rw [hs1]; exact RS.row_le _
  have e2 : s2.b.length ≤ s1.b.length := by rw [hs2]; exact kR_le _
  have e3 : s3.b.length ≤ s2.b.length := by rw [hs3]; exact RS.row_le _
  obtain ⟨l, hl0⟩ : ∃ x, x = s.row.1 := ⟨_, rfl⟩
  obtain ⟨pre, hpre⟩ : ∃ x, x = s2.row.1 := ⟨_, rfl⟩
  obtain ⟨b, hb⟩ : ∃ x, x = fgV s3 := ⟨_, rfl⟩
  have HE : Hid ((dlTk s).2 = fgS s3) := Lib.hid (by rw [hs3, hs2, hs1]; rfl)
  have HM : Hid ((dlTk s).1 = (l, (kL s1, (kD s1 : Int)), pre, b)) := Lib.hid (by rw [hb, hpre, hl0, hs3, hs2, hs1]; rfl)
  have HP0 := Lib.hid hl0
  have HP2 := Lib.hid hpre
  have HP3 := Lib.hid hb
  have HS1 := Lib.hid hs1
  have HS2 := Lib.hid hs2
  have HS3 := Lib.hid hs3
  clear hw hl hl0 hpre hb hs1 hs2 hs3
  go_enter Try.func150, Try.ntmps150
  go_wp2_with (first | ((with_reducible apply (wpl_alloc (dst := some 2))); intro zo wzo _ _ _) | ((with_reducible apply wpl_alloc); intro z wz _ _ _) | ((with_reducible apply wpl_storerow); (exact rfl); (exact rfl); infer_instance; infer_instance; (first | (with_reducible assumption) | (with_reducible exact H32.size _) | (with_reducible exact enc_sz _ rfl) | kernel_rfl); (first | (with_reducible assumption) | (with_reducible exact H32.size _) | (with_reducible exact enc_sz _ rfl) | kernel_rfl); (first | (with_reducible exact u8s_one _) | (with_reducible assumption) | (with_reducible exact enc_one _) | kernel_rfl); intro ws _ _) | ((with_reducible apply wpl_storecell); (exact rfl); (exact rfl); infer_instance; (exact rfl); (first | (with_reducible assumption) | omega | (focus (simp; done)) | (focus (simp; omega; done)) | decide); intro ws _ _))
  have hzo : w.heap.size ≤ zo := Nat.le_of_eq (inferInstance : Born w zo).eq.symm
  have hzl := (inferInstance : HB wzo zo 138 zeroDl).out.lt
  have ozo : OffB (only g) zo := ⟨fun e => by have e' : zo = g := e; omega⟩
  refine (takeText_calls (HW0.out.chg (stepN (w0 := w)).chg (fun h => h) (fun h => h)) HL.out).mono ?_
  rw [← HP0.out, ← HS1.out]
  rintro e w2 ⟨rfl, st2, h2⟩
  have H2 := Lib.hid h2
  clear h2
  have hz2 := st2.chg.size
  go_wp2_with fail
  refine (takeKeys_calls H2.out (by have := HL.out; omega)).mono ?_
  rintro e w3 ⟨k, rfl, st3, h3, hkm, hk, hkA⟩
  rw [← HS2.out] at h3
  have HK := Lib.hid hk
  clear hk
  have hsk : (RowC.enc k).toArray.size = 2 := rfl
  have hok := enc_one k
  go_wp2_with fail
  refine (takeText_calls h3.out (by have := HL.out; omega)).mono ?_
  rw [← HP2.out, ← HS3.out]
  rintro e w4 ⟨rfl, st4, h4⟩
  have H4 := Lib.hid h4
  clear h4
  go_wp2_with fail
  refine (takeFlag_calls H4.out (by have := HL.out; omega)).mono ?_
  rw [← HP3.out, ← HE.out]
  rintro e w5 ⟨rfl, st5, h5⟩
  have hzo5 : HB w5 zo 138 zeroDl := inferInstance
  have kb := run_dlB l pre k b
  have hsz : (RowC.enc (⟨l, k, pre, b⟩ : DeleR)).toArray.size = 5 := rfl
  have hon := enc_one (⟨l, k, pre, b⟩ : DeleR)
  go_wp2_with (first | ((with_reducible apply wpl_build); (exact kb _)) | ((with_reducible apply wpl_alloc); intro z wz _ _ _) | ((with_reducible apply wpl_storerow); (exact rfl); (exact rfl); infer_instance; infer_instance; (first | (with_reducible assumption) | (with_reducible exact H32.size _) | (with_reducible exact enc_sz _ rfl) | kernel_rfl); (first | (with_reducible assumption) | (with_reducible exact H32.size _) | (with_reducible exact enc_sz _ rfl) | kernel_rfl); (first | (with_reducible exact u8s_one _) | (with_reducible assumption) | (with_reducible exact enc_one _) | kernel_rfl); intro ws _ _) | ((with_reducible apply wpl_storecell); (exact rfl); (exact rfl); infer_instance; (exact rfl); (first | (with_reducible assumption) | omega | (focus (simp; done)) | (focus (simp; omega; done)) | decide); intro ws _ _))
  have hcz : Chg (only zo) w5 ws := (inferInstance : Step (only zo) w5 ws).chg
  have hlow : ∀ x, inRow k.A k.l x → wzo.heap.size ≤ x := fun x ⟨_, ad, e, h⟩ => by
    have h9 := hkA.out ad e
    omega
  refine ret_row rfl rfl (n := 5) hsz rfl ⟨⟨l, k, pre, b⟩, rfl, stepC, ?_, ?_, ?_, ?_⟩
  · exact Lib.hid (h5.out.far hcz (m := w.heap.size) (fun x hx => by have hx' : x = zo := hx; omega) hgl (fun h => hdl (by
      intro h0
      rw [h0] at hpl
      exact h (List.eq_nil_of_length_eq_zero (by simpa using hpl)))))
  · exact Lib.hid (by
      rw [HM.out]
      show (l, k.m, pre, b) = _
      rw [hkm.out])
  · exact ((KIn.chg HK.out (st4.chg.trans st5.chg (fun _ _ h => h)) (fun x hx h => by
      have h8 := hlow x hx
      have h' : x = g := h
      have h9 := (stepN (w0 := w) (w := wzo)).chg.size
      omega)).chg hcz (fun x hx h => by
      have h8 := hlow x hx
      have h' : x = zo := h
      omega))
  · exact ⟨fun ad e => by
      have h9 := hkA.out ad e
      have h8 := (stepN (w0 := w) (w := wzo)).chg.size
      omega⟩
end Go.Proofs.Ythcleccofccbdaa
