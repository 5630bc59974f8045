/- DrC -/
import Derived.Test.YteieielodooglaaGreatTpDrB
open Go Go.RowKit
namespace Go.Proofs.YteieielodooglaaGreat
def EnrR.setW (r : EnrR) (hw : List UInt8) : EnrR := ⟨r.l, hw, r.pub, r.tl, r.tlen, r.tone⟩
def EnrR.setP (r : EnrR) (pub : H32) : EnrR := ⟨r.l, r.hw, pub, r.tl, r.tlen, r.tone⟩
theorem enc_setW (r : EnrR) (hw : List UInt8) : RowC.enc (r.setW hw) = (RowC.enc r).take 1 ++ [.string (strL hw)] ++ (RowC.enc r).drop (1 + 1) := rfl
theorem enc_setP (r : EnrR) (pub : H32) : RowC.enc (r.setP pub) = (RowC.enc r).take 2 ++ (u8s pub.l).toList ++ (RowC.enc r).drop (2 + 32) := by
  have h : (RowC.enc r).drop (2 + 32) = r.tl := by
    show (bs r.pub.l ++ r.tl).drop 32 = r.tl
    exact List.drop_left' (bsl r.pub)
  rw [h]
  rfl
theorem HB.row_eqD {w : World} {g : Nat} {t : TypeId} {cs cs' : Array Value} (h : HB w g t cs) (e : cs = cs') : HB w g t cs' := e ▸ h
theorem run_enr (nm : List UInt8) (w : World) : (Instr.build 114 #[(0, .string (strL nm))]).run Tryz.prog w = .ok (.agg (RowC.enc (EnrR.new nm)).toArray) w := by kernel_rfl
theorem gt_new (L : List EnrR) (r : EnrR) : gt (L ++ [r]) L.length = r := by simp [gt, List.getD_eq_getElem?_getD]
theorem gt_setE (L : List EnrR) (k : Nat) (r : EnrR) (h : k < L.length) : gt (L.set k r) k = r := by simp [gt, List.getD_eq_getElem?_getD, h]
instance cellStr : CellT Tryz.prog 9 := ⟨fun _ => by kernel_rfl, fun _ => by kernel_rfl⟩
set_option maxRecDepth 100000 in
set_option maxHeartbeats 1600000 in
theorem enrBad_calls (zd : Nat) (nm hw : List UInt8) (pub : H32) (hbad : (nameL nm && nameL hw) = false) (w : World) :
    Calls Tryz.prog 24 #[.pointer (some ⟨zd, 0, none⟩), .string (strL nm), .string (strL hw), .agg (u8s pub.l)] w fun e w' => e = .returned (.int .i64 1) ∧ Step nowhere w w' := by
  cases h1 : nameL nm
  case false =>
    go_enter Tryz.func24, Tryz.ntmps24
    go_wp2_with (first | go_skip | ((with_reducible apply (wpl_box_agg (dst := some 7))); (exact rfl); intro zp wzp _ _ _) | ((with_reducible apply (wpl_box_int (dst := some 7))); (exact rfl); intro zp wzp _ _ _) | ((with_reducible apply (wpl_box_slice (dst := some 7))); (exact rfl); intro zp wzp _ _ _) | ((with_reducible apply (wpl_box_str (dst := some 7))); (exact rfl); intro zp wzp _ _ _) | ((with_reducible apply (wpl_box_bool (dst := some 7))); (exact rfl); intro zp wzp _ _ _) | ((with_reducible apply (wpl_box_ptr (dst := some 7))); (exact rfl); intro zp wzp _ _ _) | ((with_reducible apply wpl_box_agg); (exact rfl); intro z wz _ _ _) | ((with_reducible apply wpl_box_int); (exact rfl); intro z wz _ _ _) | ((with_reducible apply wpl_box_slice); (exact rfl); intro z wz _ _ _) | ((with_reducible apply wpl_box_str); (exact rfl); intro z wz _ _ _) | ((with_reducible apply wpl_box_bool); (exact rfl); intro z wz _ _ _) | ((with_reducible apply wpl_box_ptr); (exact rfl); intro z wz _ _ _) | ((with_reducible apply wpl_loadrow); (exact rfl); infer_instance; infer_instance; (first | (with_reducible assumption) | (with_reducible exact H32.size _) | (with_reducible exact enc_sz _ rfl) | kernel_rfl)) | ((with_reducible apply wpl_loadcellN); (exact rfl); infer_instance; (exact rfl)) | ((with_reducible apply wpl_storerow); (exact rfl); (exact rfl); infer_instance; infer_instance; (first | (with_reducible assumption) | (with_reducible exact H32.size _) | (with_reducible exact enc_sz _ rfl) | kernel_rfl); (first | (with_reducible assumption) | (with_reducible exact H32.size _) | (with_reducible exact enc_sz _ rfl) | kernel_rfl); (first | (with_reducible exact u8s_one _) | (with_reducible assumption) | (with_reducible exact enc_one _) | kernel_rfl); intro ws _ _) | ((with_reducible apply wpl_storecell); (exact rfl); (exact rfl); infer_instance; (exact rfl); (first | (with_reducible assumption) | omega | (focus (simp; done)) | (focus (simp; omega; done)) | decide); intro ws _ _))
    refine (wname_calls (strL nm) nm rfl _).mono ?_
    rw [h1]
    rintro e w5 ⟨rfl, _⟩
    go_wp2_with (first | go_skip | ((with_reducible apply (wpl_guard (op := .call _))); (exact rfl)) | ((with_reducible apply wpl_box_agg); (exact rfl); intro z wz _ _ _) | ((with_reducible apply wpl_box_int); (exact rfl); intro z wz _ _ _) | ((with_reducible apply wpl_box_slice); (exact rfl); intro z wz _ _ _) | ((with_reducible apply wpl_box_str); (exact rfl); intro z wz _ _ _) | ((with_reducible apply wpl_box_bool); (exact rfl); intro z wz _ _ _) | ((with_reducible apply wpl_box_ptr); (exact rfl); intro z wz _ _ _) | ((with_reducible apply wpl_loadrow); (exact rfl); infer_instance; infer_instance; (first | (with_reducible assumption) | (with_reducible exact H32.size _) | (with_reducible exact enc_sz _ rfl) | kernel_rfl)) | ((with_reducible apply wpl_loadcellN); (exact rfl); infer_instance; (exact rfl)) | ((with_reducible apply wpl_storerow); (exact rfl); (exact rfl); infer_instance; infer_instance; (first | (with_reducible assumption) | (with_reducible exact H32.size _) | (with_reducible exact enc_sz _ rfl) | kernel_rfl); (first | (with_reducible assumption) | (with_reducible exact H32.size _) | (with_reducible exact enc_sz _ rfl) | kernel_rfl); (first | (with_reducible exact u8s_one _) | (with_reducible assumption) | (with_reducible exact enc_one _) | kernel_rfl); intro ws _ _) | ((with_reducible apply wpl_storecell); (exact rfl); (exact rfl); infer_instance; (exact rfl); (first | (with_reducible assumption) | omega | (focus (simp; done)) | (focus (simp; omega; done)) | decide); intro ws _ _))
    go_ret
    exact ⟨rfl, stepN⟩
  case true =>
    have h2 : nameL hw = false := by rw [h1] at hbad; simpa using hbad
    go_enter Tryz.func24, Tryz.ntmps24
    go_wp2_with (first | go_skip | ((with_reducible apply (wpl_box_agg (dst := some 7))); (exact rfl); intro zp wzp _ _ _) | ((with_reducible apply (wpl_box_int (dst := some 7))); (exact rfl); intro zp wzp _ _ _) | ((with_reducible apply (wpl_box_slice (dst := some 7))); (exact rfl); intro zp wzp _ _ _) | ((with_reducible apply (wpl_box_str (dst := some 7))); (exact rfl); intro zp wzp _ _ _) | ((with_reducible apply (wpl_box_bool (dst := some 7))); (exact rfl); intro zp wzp _ _ _) | ((with_reducible apply (wpl_box_ptr (dst := some 7))); (exact rfl); intro zp wzp _ _ _) | ((with_reducible apply wpl_box_agg); (exact rfl); intro z wz _ _ _) | ((with_reducible apply wpl_box_int); (exact rfl); intro z wz _ _ _) | ((with_reducible apply wpl_box_slice); (exact rfl); intro z wz _ _ _) | ((with_reducible apply wpl_box_str); (exact rfl); intro z wz _ _ _) | ((with_reducible apply wpl_box_bool); (exact rfl); intro z wz _ _ _) | ((with_reducible apply wpl_box_ptr); (exact rfl); intro z wz _ _ _) | ((with_reducible apply wpl_loadrow); (exact rfl); infer_instance; infer_instance; (first | (with_reducible assumption) | (with_reducible exact H32.size _) | (with_reducible exact enc_sz _ rfl) | kernel_rfl)) | ((with_reducible apply wpl_loadcellN); (exact rfl); infer_instance; (exact rfl)) | ((with_reducible apply wpl_storerow); (exact rfl); (exact rfl); infer_instance; infer_instance; (first | (with_reducible assumption) | (with_reducible exact H32.size _) | (with_reducible exact enc_sz _ rfl) | kernel_rfl); (first | (with_reducible assumption) | (with_reducible exact H32.size _) | (with_reducible exact enc_sz _ rfl) | kernel_rfl); (first | (with_reducible exact u8s_one _) | (with_reducible assumption) | (with_reducible exact enc_one _) | kernel_rfl); intro ws _ _) | ((with_reducible apply wpl_storecell); (exact rfl); (exact rfl); infer_instance; (exact rfl); (first | (with_reducible assumption) | omega | (focus (simp; done)) | (focus (simp; omega; done)) | decide); intro ws _ _))
    refine (wname_calls (strL nm) nm rfl _).mono ?_
    rw [h1]
    rintro e w5 ⟨rfl, _⟩
    go_wp2_with (first | go_skip | ((with_reducible apply wpl_box_agg); (exact rfl); intro z wz _ _ _) | ((with_reducible apply wpl_box_int); (exact rfl); intro z wz _ _ _) | ((with_reducible apply wpl_box_slice); (exact rfl); intro z wz _ _ _) | ((with_reducible apply wpl_box_str); (exact rfl); intro z wz _ _ _) | ((with_reducible apply wpl_box_bool); (exact rfl); intro z wz _ _ _) | ((with_reducible apply wpl_box_ptr); (exact rfl); intro z wz _ _ _) | ((with_reducible apply wpl_loadrow); (exact rfl); infer_instance; infer_instance; (first | (with_reducible assumption) | (with_reducible exact H32.size _) | (with_reducible exact enc_sz _ rfl) | kernel_rfl)) | ((with_reducible apply wpl_loadcellN); (exact rfl); infer_instance; (exact rfl)) | ((with_reducible apply wpl_storerow); (exact rfl); (exact rfl); infer_instance; infer_instance; (first | (with_reducible assumption) | (with_reducible exact H32.size _) | (with_reducible exact enc_sz _ rfl) | kernel_rfl); (first | (with_reducible assumption) | (with_reducible exact H32.size _) | (with_reducible exact enc_sz _ rfl) | kernel_rfl); (first | (with_reducible exact u8s_one _) | (with_reducible assumption) | (with_reducible exact enc_one _) | kernel_rfl); intro ws _ _) | ((with_reducible apply wpl_storecell); (exact rfl); (exact rfl); infer_instance; (exact rfl); (first | (with_reducible assumption) | omega | (focus (simp; done)) | (focus (simp; omega; done)) | decide); intro ws _ _))
    refine (wname_calls (strL hw) hw rfl _).mono ?_
    rw [h2]
    rintro e w6 ⟨rfl, _⟩
    go_wp2_with (first | go_skip | ((with_reducible apply wpl_box_agg); (exact rfl); intro z wz _ _ _) | ((with_reducible apply wpl_box_int); (exact rfl); intro z wz _ _ _) | ((with_reducible apply wpl_box_slice); (exact rfl); intro z wz _ _ _) | ((with_reducible apply wpl_box_str); (exact rfl); intro z wz _ _ _) | ((with_reducible apply wpl_box_bool); (exact rfl); intro z wz _ _ _) | ((with_reducible apply wpl_box_ptr); (exact rfl); intro z wz _ _ _) | ((with_reducible apply wpl_loadrow); (exact rfl); infer_instance; infer_instance; (first | (with_reducible assumption) | (with_reducible exact H32.size _) | (with_reducible exact enc_sz _ rfl) | kernel_rfl)) | ((with_reducible apply wpl_loadcellN); (exact rfl); infer_instance; (exact rfl)) | ((with_reducible apply wpl_storerow); (exact rfl); (exact rfl); infer_instance; infer_instance; (first | (with_reducible assumption) | (with_reducible exact H32.size _) | (with_reducible exact enc_sz _ rfl) | kernel_rfl); (first | (with_reducible assumption) | (with_reducible exact H32.size _) | (with_reducible exact enc_sz _ rfl) | kernel_rfl); (first | (with_reducible exact u8s_one _) | (with_reducible assumption) | (with_reducible exact enc_one _) | kernel_rfl); intro ws _ _) | ((with_reducible apply wpl_storecell); (exact rfl); (exact rfl); infer_instance; (exact rfl); (first | (with_reducible assumption) | omega | (focus (simp; done)) | (focus (simp; omega; done)) | decide); intro ws _ _))
    go_ret
    exact ⟨rfl, stepN⟩
set_option maxRecDepth 100000 in
set_option maxHeartbeats 1600000 in
theorem enrFull_calls {w0 w : World} {zd zr : Nat} {s : DS} (D : DrAt w0 w zd zr s) (nm hw : List UInt8) (pub : H32) (h1 : nameL nm = true) (h2 : nameL hw = true) (hrise : RiseE s.L) (hno : ∀ k, k < s.L.length → (gt s.L k).l ≠ nm) (hfull : 4 ≤ s.n) (hmax : s.n ≤ 1000000) :
    Calls Tryz.prog 24 #[.pointer (some ⟨zd, 0, none⟩), .string (strL nm), .string (strL hw), .agg (u8s pub.l)] w fun e w' => e = .returned (.int .i64 12) ∧ Step nowhere w w' := by
  obtain ⟨A, n, c, L, sd, p0, p1, f, g, v, suf, B, m, d, T⟩ := s
  obtain ⟨hd, ha, hl, hr, hb, hm, hs, zz, az, bz, ld, lr, la, lb⟩ := D
  dsimp only at hd ha hl hr hb hm hs az bz la lb
  dsimp only at hrise hno hfull hmax
  have HS := Lib.hid hrise
  have HL := Lib.hid hl
  have HN := Lib.hid hmax
  have HNO := Lib.hid hno
  have hfI : 4 ≤ (n : Int) := by omega
  have hn9 : n ≤ 9223372036854775807 := by omega
  clear hrise hno hr hb hl
  go_enter Tryz.func24, Tryz.ntmps24
  go_wp2_with (first | go_skip | ((with_reducible apply (wpl_box_agg (dst := some 7))); (exact rfl); intro zp wzp _ _ _) | ((with_reducible apply (wpl_box_int (dst := some 7))); (exact rfl); intro zp wzp _ _ _) | ((with_reducible apply (wpl_box_slice (dst := some 7))); (exact rfl); intro zp wzp _ _ _) | ((with_reducible apply (wpl_box_str (dst := some 7))); (exact rfl); intro zp wzp _ _ _) | ((with_reducible apply (wpl_box_bool (dst := some 7))); (exact rfl); intro zp wzp _ _ _) | ((with_reducible apply (wpl_box_ptr (dst := some 7))); (exact rfl); intro zp wzp _ _ _) | ((with_reducible apply wpl_box_agg); (exact rfl); intro z wz _ _ _) | ((with_reducible apply wpl_box_int); (exact rfl); intro z wz _ _ _) | ((with_reducible apply wpl_box_slice); (exact rfl); intro z wz _ _ _) | ((with_reducible apply wpl_box_str); (exact rfl); intro z wz _ _ _) | ((with_reducible apply wpl_box_bool); (exact rfl); intro z wz _ _ _) | ((with_reducible apply wpl_box_ptr); (exact rfl); intro z wz _ _ _) | ((with_reducible apply wpl_loadrow); (exact rfl); infer_instance; infer_instance; (first | (with_reducible assumption) | (with_reducible exact H32.size _) | (with_reducible exact enc_sz _ rfl) | kernel_rfl)) | ((with_reducible apply wpl_loadcellN); (exact rfl); infer_instance; (exact rfl)) | ((with_reducible apply wpl_storerow); (exact rfl); (exact rfl); infer_instance; infer_instance; (first | (with_reducible assumption) | (with_reducible exact H32.size _) | (with_reducible exact enc_sz _ rfl) | kernel_rfl); (first | (with_reducible assumption) | (with_reducible exact H32.size _) | (with_reducible exact enc_sz _ rfl) | kernel_rfl); (first | (with_reducible exact u8s_one _) | (with_reducible assumption) | (with_reducible exact enc_one _) | kernel_rfl); intro ws _ _) | ((with_reducible apply wpl_storecell); (exact rfl); (exact rfl); infer_instance; (exact rfl); (first | (with_reducible assumption) | omega | (focus (simp; done)) | (focus (simp; omega; done)) | decide); intro ws _ _))
  refine (wname_calls (strL nm) nm rfl _).mono ?_
  rw [h1]
  rintro e w5 ⟨rfl, _⟩
  go_wp2_with (first | go_skip | ((with_reducible apply wpl_box_agg); (exact rfl); intro z wz _ _ _) | ((with_reducible apply wpl_box_int); (exact rfl); intro z wz _ _ _) | ((with_reducible apply wpl_box_slice); (exact rfl); intro z wz _ _ _) | ((with_reducible apply wpl_box_str); (exact rfl); intro z wz _ _ _) | ((with_reducible apply wpl_box_bool); (exact rfl); intro z wz _ _ _) | ((with_reducible apply wpl_box_ptr); (exact rfl); intro z wz _ _ _) | ((with_reducible apply wpl_loadrow); (exact rfl); infer_instance; infer_instance; (first | (with_reducible assumption) | (with_reducible exact H32.size _) | (with_reducible exact enc_sz _ rfl) | kernel_rfl)) | ((with_reducible apply wpl_loadcellN); (exact rfl); infer_instance; (exact rfl)) | ((with_reducible apply wpl_storerow); (exact rfl); (exact rfl); infer_instance; infer_instance; (first | (with_reducible assumption) | (with_reducible exact H32.size _) | (with_reducible exact enc_sz _ rfl) | kernel_rfl); (first | (with_reducible assumption) | (with_reducible exact H32.size _) | (with_reducible exact enc_sz _ rfl) | kernel_rfl); (first | (with_reducible exact u8s_one _) | (with_reducible assumption) | (with_reducible exact enc_one _) | kernel_rfl); intro ws _ _) | ((with_reducible apply wpl_storecell); (exact rfl); (exact rfl); infer_instance; (exact rfl); (first | (with_reducible assumption) | omega | (focus (simp; done)) | (focus (simp; omega; done)) | decide); intro ws _ _))
  refine (wname_calls (strL hw) hw rfl _).mono ?_
  rw [h2]
  rintro e w6 ⟨rfl, _⟩
  have hd6 : HB w6 zd 107 #[.pointer (some ⟨zr, 0, none⟩), .slice A n c] := inferInstance
  have ha6 : HO w6 114 71 A n c (cellsOf L) := inferInstance
  go_wp2_with (first | go_skip | ((with_reducible apply wpl_box_agg); (exact rfl); intro z wz _ _ _) | ((with_reducible apply wpl_box_int); (exact rfl); intro z wz _ _ _) | ((with_reducible apply wpl_box_slice); (exact rfl); intro z wz _ _ _) | ((with_reducible apply wpl_box_str); (exact rfl); intro z wz _ _ _) | ((with_reducible apply wpl_box_bool); (exact rfl); intro z wz _ _ _) | ((with_reducible apply wpl_box_ptr); (exact rfl); intro z wz _ _ _) | ((with_reducible apply wpl_loadrow); (exact rfl); infer_instance; infer_instance; (first | (with_reducible assumption) | (with_reducible exact H32.size _) | (with_reducible exact enc_sz _ rfl) | kernel_rfl)) | ((with_reducible apply wpl_loadcellN); (exact rfl); infer_instance; (exact rfl)) | ((with_reducible apply wpl_storerow); (exact rfl); (exact rfl); infer_instance; infer_instance; (first | (with_reducible assumption) | (with_reducible exact H32.size _) | (with_reducible exact enc_sz _ rfl) | kernel_rfl); (first | (with_reducible assumption) | (with_reducible exact H32.size _) | (with_reducible exact enc_sz _ rfl) | kernel_rfl); (first | (with_reducible exact u8s_one _) | (with_reducible assumption) | (with_reducible exact enc_one _) | kernel_rfl); intro ws _ _) | ((with_reducible apply wpl_storecell); (exact rfl); (exact rfl); infer_instance; (exact rfl); (first | (with_reducible assumption) | omega | (focus (simp; done)) | (focus (simp; omega; done)) | decide); intro ws _ _))
  refine (placeE_calls nm (by have := HL.out; omega) (by have := HN.out; omega) HS.out).mono ?_
  rintro e w7 ⟨k, rfl, hp, st7⟩
  have hin : inE L nm k = false := by
    unfold inE
    by_cases hk : k < L.length
    · rw [decide_eq_false (HNO.out k hk), Bool.and_false]
    · rw [decide_eq_false hk, Bool.false_and]
  rw [hin]
  have hd7 : HB w7 zd 107 #[.pointer (some ⟨zr, 0, none⟩), .slice A n c] := inferInstance
  clear hin hp
  go_wp2_with (first | go_skip | ((with_reducible apply wpl_box_agg); (exact rfl); intro z wz _ _ _) | ((with_reducible apply wpl_box_int); (exact rfl); intro z wz _ _ _) | ((with_reducible apply wpl_box_slice); (exact rfl); intro z wz _ _ _) | ((with_reducible apply wpl_box_str); (exact rfl); intro z wz _ _ _) | ((with_reducible apply wpl_box_bool); (exact rfl); intro z wz _ _ _) | ((with_reducible apply wpl_box_ptr); (exact rfl); intro z wz _ _ _) | ((with_reducible apply wpl_loadrow); (exact rfl); infer_instance; infer_instance; (first | (with_reducible assumption) | (with_reducible exact H32.size _) | (with_reducible exact enc_sz _ rfl) | kernel_rfl)) | ((with_reducible apply wpl_loadcellN); (exact rfl); infer_instance; (exact rfl)) | ((with_reducible apply wpl_storerow); (exact rfl); (exact rfl); infer_instance; infer_instance; (first | (with_reducible assumption) | (with_reducible exact H32.size _) | (with_reducible exact enc_sz _ rfl) | kernel_rfl); (first | (with_reducible assumption) | (with_reducible exact H32.size _) | (with_reducible exact enc_sz _ rfl) | kernel_rfl); (first | (with_reducible exact u8s_one _) | (with_reducible assumption) | (with_reducible exact enc_one _) | kernel_rfl); intro ws _ _) | ((with_reducible apply wpl_storecell); (exact rfl); (exact rfl); infer_instance; (exact rfl); (first | (with_reducible assumption) | omega | (focus (simp; done)) | (focus (simp; omega; done)) | decide); intro ws _ _))
  go_ret
  exact ⟨rfl, stepN⟩
set_option maxRecDepth 100000 in
set_option maxHeartbeats 3200000 in
theorem enrNew_calls {w0 w : World} {zd zr : Nat} {s : DS} [nw : Nw w0 w] (D : DrAt w0 w zd zr s) (nm hw : List UInt8) (pub : H32) (h1 : nameL nm = true) (h2 : nameL hw = true) (hrise : RiseE s.L) (hup : ∀ k, k < s.L.length → Op.bytesLess (gt s.L k).l nm = true) (hroom : s.n < 4) :
    Calls Tryz.prog 24 #[.pointer (some ⟨zd, 0, none⟩), .string (strL nm), .string (strL hw), .agg (u8s pub.l)] w fun e w' => ∃ A' c', e = .returned (.int .i64 0) ∧ Nw w0 w' ∧ DrAt w0 w' zd zr ⟨A', s.n + 1, c', s.L ++ [((EnrR.new nm).setW hw).setP pub], s.sd, s.p0, s.p1, s.f, s.g, s.v, s.suf, s.B, s.m, s.d, s.T⟩ := by
  obtain ⟨A, n, c, L, sd, p0, p1, f, g, v, suf, B, m, d, T⟩ := s
  obtain ⟨hd, ha, hl, hr, hb, hm, hs, zz, az, bz, ld, lr, la, lb⟩ := D
  dsimp only at hd ha hl hr hb hm hs az bz la lb
  dsimp only at hrise hup hroom
  have HS := Lib.hid hrise
  have HL := Lib.hid hl
  have HN : Hid (n ≤ 1000000) := Lib.hid (by omega)
  have HUP := Lib.hid hup
  have hfI : ¬ 4 ≤ (n : Int) := by omega
  have hn9 : n ≤ 9223372036854775807 := by omega
  have hdl := hd.out.lt
  have hrl := hr.out.lt
  have oAd : OffB (rowOf A) zd := ⟨fun ⟨ad, e, h⟩ => (az ad e).1 h⟩
  have oAr : OffB (rowOf A) zr := ⟨fun ⟨ad, e, h⟩ => (az ad e).2.1 h⟩
  have oAB : OffA (rowOf A) B := ⟨fun bd e ⟨ad, e2, h⟩ => (az ad e2).2.2 bd e h⟩
  have odA : OffA (only zd) A := ⟨fun ad e h => (az ad e).1 h⟩
  have odr : OffB (only zd) zr := ⟨fun e => zz (e : zr = zd).symm⟩
  have odB : OffA (only zd) B := ⟨fun bd e h => (bz bd e).1 h⟩
  have aA : Above w0 (rowOf A) := ⟨fun x ⟨ad, e, h⟩ => by have := la.out ad e; omega⟩
  have ad_ : Above w0 (only zd) := ⟨fun x h => by have h' : x = zd := h; omega⟩
  clear hrise hup hl
  go_enter Tryz.func24, Tryz.ntmps24
  go_wp2_with (first | go_skip | ((with_reducible apply (wpl_box_agg (dst := some 7))); (exact rfl); intro zp wzp _ _ _) | ((with_reducible apply (wpl_box_int (dst := some 7))); (exact rfl); intro zp wzp _ _ _) | ((with_reducible apply (wpl_box_slice (dst := some 7))); (exact rfl); intro zp wzp _ _ _) | ((with_reducible apply (wpl_box_str (dst := some 7))); (exact rfl); intro zp wzp _ _ _) | ((with_reducible apply (wpl_box_bool (dst := some 7))); (exact rfl); intro zp wzp _ _ _) | ((with_reducible apply (wpl_box_ptr (dst := some 7))); (exact rfl); intro zp wzp _ _ _) | ((with_reducible apply wpl_box_agg); (exact rfl); intro z wz _ _ _) | ((with_reducible apply wpl_box_int); (exact rfl); intro z wz _ _ _) | ((with_reducible apply wpl_box_slice); (exact rfl); intro z wz _ _ _) | ((with_reducible apply wpl_box_str); (exact rfl); intro z wz _ _ _) | ((with_reducible apply wpl_box_bool); (exact rfl); intro z wz _ _ _) | ((with_reducible apply wpl_box_ptr); (exact rfl); intro z wz _ _ _) | ((with_reducible apply wpl_loadrow); (exact rfl); infer_instance; infer_instance; (first | (with_reducible assumption) | (with_reducible exact H32.size _) | (with_reducible exact enc_sz _ rfl) | kernel_rfl)) | ((with_reducible apply wpl_loadcellN); (exact rfl); infer_instance; (exact rfl)) | ((with_reducible apply wpl_storerow); (exact rfl); (exact rfl); infer_instance; infer_instance; (first | (with_reducible assumption) | (with_reducible exact H32.size _) | (with_reducible exact enc_sz _ rfl) | kernel_rfl); (first | (with_reducible assumption) | (with_reducible exact H32.size _) | (with_reducible exact enc_sz _ rfl) | kernel_rfl); (first | (with_reducible exact u8s_one _) | (with_reducible assumption) | (with_reducible exact enc_one _) | kernel_rfl); intro ws _ _) | ((with_reducible apply wpl_storecell); (exact rfl); (exact rfl); infer_instance; (exact rfl); (first | (with_reducible assumption) | omega | (focus (simp; done)) | (focus (simp; omega; done)) | decide); intro ws _ _))
  have hzp : w.heap.size ≤ zp := Nat.le_of_eq (inferInstance : Born w zp).eq.symm
  have oAp : OffB (rowOf A) zp := ⟨fun ⟨ad, e, h⟩ => by have := ha.out.lt e; omega⟩
  have odp : OffB (only zd) zp := ⟨fun e => by have e' : zp = zd := e; omega⟩
  refine (wname_calls (strL nm) nm rfl _).mono ?_
  rw [h1]
  rintro e w5 ⟨rfl, _⟩
  go_wp2_with (first | go_skip | ((with_reducible apply wpl_box_agg); (exact rfl); intro z wz _ _ _) | ((with_reducible apply wpl_box_int); (exact rfl); intro z wz _ _ _) | ((with_reducible apply wpl_box_slice); (exact rfl); intro z wz _ _ _) | ((with_reducible apply wpl_box_str); (exact rfl); intro z wz _ _ _) | ((with_reducible apply wpl_box_bool); (exact rfl); intro z wz _ _ _) | ((with_reducible apply wpl_box_ptr); (exact rfl); intro z wz _ _ _) | ((with_reducible apply wpl_loadrow); (exact rfl); infer_instance; infer_instance; (first | (with_reducible assumption) | (with_reducible exact H32.size _) | (with_reducible exact enc_sz _ rfl) | kernel_rfl)) | ((with_reducible apply wpl_loadcellN); (exact rfl); infer_instance; (exact rfl)) | ((with_reducible apply wpl_storerow); (exact rfl); (exact rfl); infer_instance; infer_instance; (first | (with_reducible assumption) | (with_reducible exact H32.size _) | (with_reducible exact enc_sz _ rfl) | kernel_rfl); (first | (with_reducible assumption) | (with_reducible exact H32.size _) | (with_reducible exact enc_sz _ rfl) | kernel_rfl); (first | (with_reducible exact u8s_one _) | (with_reducible assumption) | (with_reducible exact enc_one _) | kernel_rfl); intro ws _ _) | ((with_reducible apply wpl_storecell); (exact rfl); (exact rfl); infer_instance; (exact rfl); (first | (with_reducible assumption) | omega | (focus (simp; done)) | (focus (simp; omega; done)) | decide); intro ws _ _))
  refine (wname_calls (strL hw) hw rfl _).mono ?_
  rw [h2]
  rintro e w6 ⟨rfl, _⟩
  have hd6 : HB w6 zd 107 #[.pointer (some ⟨zr, 0, none⟩), .slice A n c] := inferInstance
  have ha6 : HO w6 114 71 A n c (cellsOf L) := inferInstance
  go_wp2_with (first | go_skip | ((with_reducible apply wpl_box_agg); (exact rfl); intro z wz _ _ _) | ((with_reducible apply wpl_box_int); (exact rfl); intro z wz _ _ _) | ((with_reducible apply wpl_box_slice); (exact rfl); intro z wz _ _ _) | ((with_reducible apply wpl_box_str); (exact rfl); intro z wz _ _ _) | ((with_reducible apply wpl_box_bool); (exact rfl); intro z wz _ _ _) | ((with_reducible apply wpl_box_ptr); (exact rfl); intro z wz _ _ _) | ((with_reducible apply wpl_loadrow); (exact rfl); infer_instance; infer_instance; (first | (with_reducible assumption) | (with_reducible exact H32.size _) | (with_reducible exact enc_sz _ rfl) | kernel_rfl)) | ((with_reducible apply wpl_loadcellN); (exact rfl); infer_instance; (exact rfl)) | ((with_reducible apply wpl_storerow); (exact rfl); (exact rfl); infer_instance; infer_instance; (first | (with_reducible assumption) | (with_reducible exact H32.size _) | (with_reducible exact enc_sz _ rfl) | kernel_rfl); (first | (with_reducible assumption) | (with_reducible exact H32.size _) | (with_reducible exact enc_sz _ rfl) | kernel_rfl); (first | (with_reducible exact u8s_one _) | (with_reducible assumption) | (with_reducible exact enc_one _) | kernel_rfl); intro ws _ _) | ((with_reducible apply wpl_storecell); (exact rfl); (exact rfl); infer_instance; (exact rfl); (first | (with_reducible assumption) | omega | (focus (simp; done)) | (focus (simp; omega; done)) | decide); intro ws _ _))
  refine (placeE_calls nm (by have := HL.out; omega) (by have := HN.out; omega) HS.out).mono ?_
  rintro e w7 ⟨k, rfl, hp, st7⟩
  have hkn : k = n := by
    have h3 := hp.out.1
    have h4 := HL.out
    by_cases hk : k < n
    · have h5 := hp.out.2.2 k (Nat.le_refl _) (by omega)
      rw [HUP.out k (by omega)] at h5
      cases h5
    · omega
  subst hkn
  have hin : inE L nm k = false := by
    unfold inE
    rw [decide_eq_false (by have := HL.out; omega), Bool.false_and]
  rw [hin]
  have hd7 : HB w7 zd 107 #[.pointer (some ⟨zr, 0, none⟩), .slice A k c] := inferInstance
  have ha7 : HO w7 114 71 A k c (cellsOf L) := inferInstance
  have kbE := run_enr nm
  clear hin hp
  go_wp2_with (first | go_skip | ((with_reducible apply wpl_build); (exact kbE _)) | ((with_reducible apply (stop_dst (dst := some 45))); (try simp only [Act.put, sA, sB, sC]); ((with_reducible apply (wpl_bslice (dst := some 45))); (exact run_bsE _ _); intro zb wb _ _ _)) | ((with_reducible apply wpl_box_agg); (exact rfl); intro z wz _ _ _) | ((with_reducible apply wpl_box_int); (exact rfl); intro z wz _ _ _) | ((with_reducible apply wpl_box_slice); (exact rfl); intro z wz _ _ _) | ((with_reducible apply wpl_box_str); (exact rfl); intro z wz _ _ _) | ((with_reducible apply wpl_box_bool); (exact rfl); intro z wz _ _ _) | ((with_reducible apply wpl_box_ptr); (exact rfl); intro z wz _ _ _) | ((with_reducible apply wpl_loadrow); (exact rfl); infer_instance; infer_instance; (first | (with_reducible assumption) | (with_reducible exact H32.size _) | (with_reducible exact enc_sz _ rfl) | kernel_rfl)) | ((with_reducible apply wpl_loadcellN); (exact rfl); infer_instance; (exact rfl)) | ((with_reducible apply wpl_storerow); (exact rfl); (exact rfl); infer_instance; infer_instance; (first | (with_reducible assumption) | (with_reducible exact H32.size _) | (with_reducible exact enc_sz _ rfl) | kernel_rfl); (first | (with_reducible assumption) | (with_reducible exact H32.size _) | (with_reducible exact enc_sz _ rfl) | kernel_rfl); (first | (with_reducible exact u8s_one _) | (with_reducible assumption) | (with_reducible exact enc_one _) | kernel_rfl); intro ws _ _) | ((with_reducible apply wpl_storecell); (exact rfl); (exact rfl); infer_instance; (exact rfl); (first | (with_reducible assumption) | omega | (focus (simp; done)) | (focus (simp; omega; done)) | decide); intro ws _ _))
  have hbs : HR wb (some ⟨zb, 0, none⟩) (cellsOf [EnrR.new nm]) := HB.cells inferInstance
  refine (insE_calls (EnrR.new nm) HL.out HN.out).mono ?_
  rintro e w8 ⟨A', c', rfl, st8, ha8, hg8, hc8⟩
  have hd8 : HB w8 zd 107 #[.pointer (some ⟨zr, 0, none⟩), .slice A k c] := inferInstance
  have hr8 : HB w8 zr 73 (rpL sd p0 p1 f g v (.slice B m d :: suf)).toArray := inferInstance
  have hb8 : HO w8 42 37 B m d (cellsOf T) := inferInstance
  have hp8 : HB w8 zp 23 (u8s pub.l) := inferInstance
  have nw8 : Nw w0 w8 := inferInstance
  have szb : w.heap.size ≤ wb.heap.size := (inferInstance : SzLe w wb).out
  have zpl := hp8.out.lt
  have zpb : zp < wb.heap.size := (inferInstance : HB wb zp 23 (u8s pub.l)).out.lt
  have hA' : ∀ ad, A' = some ad → A' = A ∨ ad.block = wb.heap.size := fun ad e => by
    rcases hg8.out with h9 | h9
    · exact .inl h9
    · rw [h9] at e
      injection e with e
      subst e
      exact .inr rfl
  have az' : ∀ ad, A' = some ad → ad.block ≠ zd ∧ ad.block ≠ zr ∧ ad.block ≠ zp ∧ (∀ bd, B = some bd → ad.block ≠ bd.block) ∧ w0.heap.size ≤ ad.block := fun ad e => by
    rcases hA' ad e with h9 | h9
    · rw [h9] at e
      have h10 := az ad e
      have h11 := ha.out.lt e
      have h12 := la.out ad e
      exact ⟨h10.1, h10.2.1, by omega, h10.2.2, h12⟩
    · refine ⟨by omega, by omega, by omega, fun bd e2 => ?_, ?_⟩
      · have := hb.out.lt e2
        omega
      · have := nw.out.size
        omega
  have oAd' : OffB (rowOf A') zd := ⟨fun ⟨ad, e, h⟩ => (az' ad e).1 h⟩
  have oAr' : OffB (rowOf A') zr := ⟨fun ⟨ad, e, h⟩ => (az' ad e).2.1 h⟩
  have oAp' : OffB (rowOf A') zp := ⟨fun ⟨ad, e, h⟩ => (az' ad e).2.2.1 h⟩
  have oAB' : OffA (rowOf A') B := ⟨fun bd e ⟨ad, e2, h⟩ => (az' ad e2).2.2.2.1 bd e h⟩
  have odA' : OffA (only zd) A' := ⟨fun ad e h => (az' ad e).1 h⟩
  have aA' : Above w0 (rowOf A') := ⟨fun x ⟨ad, e, h⟩ => by have := (az' ad e).2.2.2.2; omega⟩
  have HAZ := Lib.hid az'
  clear hd7 ha7 hA' az' hbs
  go_wp2_with (first | go_skip | ((with_reducible apply wpl_box_agg); (exact rfl); intro z wz _ _ _) | ((with_reducible apply wpl_box_int); (exact rfl); intro z wz _ _ _) | ((with_reducible apply wpl_box_slice); (exact rfl); intro z wz _ _ _) | ((with_reducible apply wpl_box_str); (exact rfl); intro z wz _ _ _) | ((with_reducible apply wpl_box_bool); (exact rfl); intro z wz _ _ _) | ((with_reducible apply wpl_box_ptr); (exact rfl); intro z wz _ _ _) | ((with_reducible apply wpl_loadrow); (exact rfl); infer_instance; infer_instance; (first | (with_reducible assumption) | (with_reducible exact H32.size _) | (with_reducible exact enc_sz _ rfl) | kernel_rfl)) | ((with_reducible apply wpl_loadcellN); (exact rfl); infer_instance; (exact rfl)) | ((with_reducible apply wpl_storerow); (exact rfl); (exact rfl); infer_instance; infer_instance; (first | (with_reducible assumption) | (with_reducible exact H32.size _) | (with_reducible exact enc_sz _ rfl) | kernel_rfl); (first | (with_reducible assumption) | (with_reducible exact H32.size _) | (with_reducible exact enc_sz _ rfl) | kernel_rfl); (first | (with_reducible exact u8s_one _) | (with_reducible assumption) | (with_reducible exact enc_one _) | kernel_rfl); intro ws _ _) | ((with_reducible apply wpl_storecell); (exact rfl); (exact rfl); infer_instance; (exact rfl); (first | (with_reducible assumption) | omega | (focus (simp; done)) | (focus (simp; omega; done)) | decide); intro ws _ _))
  obtain ⟨w9, hw9⟩ : ∃ x : World, x = ws := ⟨_, rfl⟩
  subst hw9
  have hd9 : HB w9 zd 107 #[.pointer (some ⟨zr, 0, none⟩), .slice A' (k + 1) c'] := HB.row_eqD (w := w9) (g := zd) inferInstance rfl
  have ha9 : HO w9 114 71 A' (k + 1) c' (cellsOf (L ++ [EnrR.new nm])) := inferInstance
  have hr9 : HB w9 zr 73 (rpL sd p0 p1 f g v (.slice B m d :: suf)).toArray := inferInstance
  have hb9 : HO w9 42 37 B m d (cellsOf T) := inferInstance
  have hp9 : HB w9 zp 23 (u8s pub.l) := inferInstance
  have nw9 : Nw w0 w9 := inferInstance
  clear hd8 ha8 hr8 hb8 hp8 nw8 st8
  have hkl : k < (L ++ [EnrR.new nm]).length := by rw [List.length_append, HL.out]; exact Nat.lt_succ_self k
  have hg1 : gt (L ++ [EnrR.new nm]) k = EnrR.new nm := by rw [← HL.out]; exact gt_new L _
  have hset2 : ((L ++ [EnrR.new nm]).set k ((EnrR.new nm).setW hw)).set k (((EnrR.new nm).setW hw).setP pub) = L ++ [((EnrR.new nm).setW hw).setP pub] := by
    rw [List.set_set, List.set_append_right _ _ (by rw [HL.out]; exact Nat.le_refl _), HL.out, Nat.sub_self]
    rfl
  have hE1 : RowC.enc ((EnrR.new nm).setW hw) = (RowC.enc (gt (L ++ [EnrR.new nm]) k)).take 1 ++ [.string (strL hw)] ++ (RowC.enc (gt (L ++ [EnrR.new nm]) k)).drop (1 + 1) := by rw [hg1]; exact enc_setW _ _
  have hE2 : RowC.enc (((EnrR.new nm).setW hw).setP pub) = (RowC.enc (gt ((L ++ [EnrR.new nm]).set k ((EnrR.new nm).setW hw)) k)).take 2 ++ (u8s pub.l).toList ++ (RowC.enc (gt ((L ++ [EnrR.new nm]).set k ((EnrR.new nm).setW hw)) k)).drop (2 + 32) := by rw [gt_setE _ _ _ hkl]; exact enc_setP _ _
  have hkl2 : k < ((L ++ [EnrR.new nm]).set k ((EnrR.new nm).setW hw)).length := by rw [List.length_set]; exact hkl
  have hMl : (L ++ [EnrR.new nm]).length = k + 1 := by rw [List.length_append, HL.out]; rfl
  have hMl2 : ((L ++ [EnrR.new nm]).set k ((EnrR.new nm).setW hw)).length = k + 1 := by rw [List.length_set]; exact hMl
  have HE1 := Lib.hid hE1
  have HE2 := Lib.hid hE2
  have HG := Lib.hid hset2
  clear hg1 hset2 hE1 hE2
  refine wp_region_N ((rowOf A')) (by kernel_rfl) (fun wd _ _ => ?_)
  refine' takeH (i := 0) (v := _) rfl (by kernel_rfl) (by kernel_rfl) (by kernel_rfl) (fun _ _ _ h => h) (yields_of (by rfl) (fun w' _ => ?_)) inferInstance ?_
  rotate_left
  · (go_simp; try with_reducible rfl)
  try simp only [Act.put, sA]; try simp only [sB, sC]
  refine' takeH (i := 1) (v := _) rfl (by kernel_rfl) (by kernel_rfl) (by kernel_rfl) (fun _ _ _ h => h) (yields_of (by rfl) (fun w' _ => ?_)) inferInstance ?_
  rotate_left
  · (go_simp; try with_reducible rfl)
  try simp only [Act.put, sA]; try simp only [sB, sC]
  refine' takeH (i := 2) (v := _) rfl (by kernel_rfl) (by kernel_rfl) (by kernel_rfl) (fun _ _ _ h => h) (yields_of (by rfl) (fun w' _ => ?_)) inferInstance ?_
  rotate_left
  · (first | ((with_reducible apply (ev_fieldE (t := 114))); (exact Tryz.underlying114); (exact rfl); (kernel_rfl); (exact rfl); infer_instance; (exact cells_pos (by decide) (by omega))) | (go_simp; try with_reducible rfl))
  try simp only [Act.put, sA]; try simp only [sB, sC]
  refine' takeH (i := 3) (v := _) rfl (by kernel_rfl) (by kernel_rfl) (by kernel_rfl) (fun _ _ _ h => h) (yields_of (by rfl) (fun w' _ => ?_)) inferInstance ?_
  rotate_left
  · (first | ((with_reducible apply ev_loadrow); (exact rfl); infer_instance; infer_instance; (first | (with_reducible assumption) | (with_reducible exact H32.size _) | (with_reducible exact enc_sz _ rfl) | kernel_rfl)) | ((with_reducible apply (ev_loadhash (t := 23))); (exact rfl); infer_instance; infer_instance; (first | (with_reducible assumption) | omega)) | ((with_reducible apply ev_loadcellN); (exact rfl); infer_instance; infer_instance; (exact rfl)) | ((with_reducible apply (ev_loadE (α := EnrR) (t := 114))); infer_instance; (exact rfl); infer_instance; (exact rfl); (decide); (first | (with_reducible assumption) | omega | (focus (simp; done)) | (focus (simp; omega; done)) | decide)) | ((with_reducible apply (ev_loadF (α := EnrR))); infer_instance; (exact rfl); infer_instance; (exact rfl); (first | (with_reducible assumption) | omega | (focus (simp; done)) | (focus (simp; omega; done)) | decide); (exact rfl)) | ((with_reducible apply (ev_loadint (t := 3))); (exact rfl); infer_instance; infer_instance; (first | (with_reducible assumption) | omega)) | ((with_reducible apply (ev_loadbyte (t := 5))); (exact rfl); infer_instance; infer_instance; (first | (with_reducible assumption) | omega)) | (go_simp; try with_reducible rfl))
  try simp only [Act.put, sA]; try simp only [sB, sC]
  refine' takeH (i := 4) (v := _) rfl (by kernel_rfl) (by kernel_rfl) (by kernel_rfl) (fun _ _ _ h => h) (yields_of (by rfl) (fun w' _ => ?_)) inferInstance ?_
  rotate_left
  · (go_simp; try with_reducible rfl)
  try simp only [Act.put, sA]; try simp only [sB, sC]
  refine' takeH (i := 5) (v := _) rfl (by kernel_rfl) (by kernel_rfl) (by kernel_rfl) (fun _ _ _ h => h) (yields_of (by rfl) (fun w' _ => ?_)) inferInstance ?_
  rotate_left
  · (go_simp; try with_reducible rfl)
  try simp only [Act.put, sA]; try simp only [sB, sC]
  refine' takeH (i := 6) (v := _) rfl (by kernel_rfl) (by kernel_rfl) (by kernel_rfl) (fun _ _ _ h => h) (yields_of (by rfl) (fun w' _ => ?_)) inferInstance ?_
  rotate_left
  · (go_simp; try with_reducible rfl)
  try simp only [Act.put, sA]; try simp only [sB, sC]
  refine' takeH (i := 7) (v := _) rfl (by kernel_rfl) (by kernel_rfl) (by kernel_rfl) (fun _ _ _ h => h) (yields_of (by rfl) (fun w' _ => ?_)) inferInstance ?_
  rotate_left
  · (first | ((with_reducible apply (ev_fieldE (t := 114))); (exact Tryz.underlying114); (exact rfl); (kernel_rfl); (exact rfl); infer_instance; (exact cells_pos (by decide) (by omega))) | (go_simp; try with_reducible rfl))
  try simp only [Act.put, sA]; try simp only [sB, sC]
  refine' takeH (i := 8) (v := _) rfl (by kernel_rfl) (by kernel_rfl) (by kernel_rfl) (fun _ _ _ h => h) (yields_of (by rfl) (fun w' _ => ?_)) inferInstance ?_
  rotate_left
  · (first | ((with_reducible apply ev_loadrow); (exact rfl); infer_instance; infer_instance; (first | (with_reducible assumption) | (with_reducible exact H32.size _) | (with_reducible exact enc_sz _ rfl) | kernel_rfl)) | ((with_reducible apply (ev_loadhash (t := 23))); (exact rfl); infer_instance; infer_instance; (first | (with_reducible assumption) | omega)) | ((with_reducible apply ev_loadcellN); (exact rfl); infer_instance; infer_instance; (exact rfl)) | ((with_reducible apply (ev_loadE (α := EnrR) (t := 114))); infer_instance; (exact rfl); infer_instance; (exact rfl); (decide); (first | (with_reducible assumption) | omega | (focus (simp; done)) | (focus (simp; omega; done)) | decide)) | ((with_reducible apply (ev_loadF (α := EnrR))); infer_instance; (exact rfl); infer_instance; (exact rfl); (first | (with_reducible assumption) | omega | (focus (simp; done)) | (focus (simp; omega; done)) | decide); (exact rfl)) | ((with_reducible apply (ev_loadint (t := 3))); (exact rfl); infer_instance; infer_instance; (first | (with_reducible assumption) | omega)) | ((with_reducible apply (ev_loadbyte (t := 5))); (exact rfl); infer_instance; infer_instance; (first | (with_reducible assumption) | omega)) | (go_simp; try with_reducible rfl))
  try simp only [Act.put, sA]; try simp only [sB, sC]
  refine' takeH (i := 9) (v := _) rfl (by kernel_rfl) (by kernel_rfl) (by kernel_rfl) (fun _ _ _ h => h) (yields_of (by rfl) (fun w' _ => ?_)) inferInstance ?_
  rotate_left
  · (go_simp; try with_reducible rfl)
  try simp only [Act.put, sA]; try simp only [sB, sC]
  refine' takeH (i := 10) (v := _) rfl (by kernel_rfl) (by kernel_rfl) (by kernel_rfl) (fun _ _ _ h => h) (yields_of (by rfl) (fun w' _ => ?_)) inferInstance ?_
  rotate_left
  · (go_simp; try with_reducible rfl)
  try simp only [Act.put, sA]; try simp only [sB, sC]
  refine' takeH (i := 11) (v := _) rfl (by kernel_rfl) (by kernel_rfl) (by kernel_rfl) (fun _ _ _ h => h) (yields_of (by rfl) (fun w' _ => ?_)) inferInstance ?_
  rotate_left
  · (first | ((with_reducible apply ev_loadrow); (exact rfl); infer_instance; infer_instance; (first | (with_reducible assumption) | (with_reducible exact H32.size _) | (with_reducible exact enc_sz _ rfl) | kernel_rfl)) | ((with_reducible apply (ev_loadhash (t := 23))); (exact rfl); infer_instance; infer_instance; (first | (with_reducible assumption) | omega)) | ((with_reducible apply ev_loadcellN); (exact rfl); infer_instance; infer_instance; (exact rfl)) | ((with_reducible apply (ev_loadE (α := EnrR) (t := 114))); infer_instance; (exact rfl); infer_instance; (exact rfl); (decide); (first | (with_reducible assumption) | omega | (focus (simp; done)) | (focus (simp; omega; done)) | decide)) | ((with_reducible apply (ev_loadF (α := EnrR))); infer_instance; (exact rfl); infer_instance; (exact rfl); (first | (with_reducible assumption) | omega | (focus (simp; done)) | (focus (simp; omega; done)) | decide); (exact rfl)) | ((with_reducible apply (ev_loadint (t := 3))); (exact rfl); infer_instance; infer_instance; (first | (with_reducible assumption) | omega)) | ((with_reducible apply (ev_loadbyte (t := 5))); (exact rfl); infer_instance; infer_instance; (first | (with_reducible assumption) | omega)) | (go_simp; try with_reducible rfl))
  try simp only [Act.put, sA]; try simp only [sB, sC]
  refine goH (i := 12) (by kernel_rfl) rfl (fun K_ hK_ => ?_)
  rw [if_pos (by kernel_rfl)]
  refine wpr_of_list ?_
  (first | ((with_reducible apply (wpl_storeC (α := EnrR) (k := k) (j := 1) (s := 71))); (exact rfl); (exact rfl); infer_instance; infer_instance; (exact rfl); (exact rfl); (exact hkl); (decide); (exact HE1.out); intro wx stx hax) | ((with_reducible apply (wpl_storeQ (α := EnrR) (k := k) (j := 2) (s := 71) (m := 32))); (exact rfl); (exact rfl); (exact hax); infer_instance; (exact H32.size _); (decide); (exact (u8s_one _)); (exact rfl); (exact hkl2); (decide); (exact HE2.out); intro wy sty hay) | ((with_reducible apply wpl_indexH); (exact rfl); (exact rfl); infer_instance; infer_instance; (first | (with_reducible assumption) | omega); (first | (with_reducible assumption) | omega); (first | (with_reducible assumption) | omega)) | ((with_reducible apply wpl_indexH'); (exact rfl); (exact rfl); infer_instance; infer_instance; (first | (with_reducible assumption) | omega); (first | (with_reducible assumption) | omega); (first | (with_reducible assumption) | omega)) | ((with_reducible apply (wpl_indexE (α := EnrR) (t := 105))); (exact rfl); (exact rfl); infer_instance; infer_instance; (first | (with_reducible assumption) | omega | (focus (simp; done)) | (focus (simp; omega; done)) | decide); (exact rfl); (decide); (first | (with_reducible assumption) | omega | (focus (simp; done)) | (focus (simp; omega; done)) | decide)) | ((with_reducible apply (wpl_indexE0 (α := EnrR) (t := 105))); (exact rfl); infer_instance; infer_instance; (first | (with_reducible assumption) | omega | (focus (simp; done)) | (focus (simp; omega; done)) | decide); (exact rfl); (decide); (first | (with_reducible assumption) | omega | (focus (simp; done)) | (focus (simp; omega; done)) | decide)))
  refine wpList_nil ?_
  unfold onlyN
  refine hK_.out _ _ inferInstance (fun _ => ?_)
  clear hK_ K_
  try simp only [Act.put, sA]; try simp only [sB, sC]
  refine goH (i := 13) (by kernel_rfl) rfl (fun K_ hK_ => ?_)
  rw [if_pos (by kernel_rfl)]
  refine wpr_of_list ?_
  (first | ((with_reducible apply (wpl_storeC (α := EnrR) (k := k) (j := 1) (s := 71))); (exact rfl); (exact rfl); infer_instance; infer_instance; (exact rfl); (exact rfl); (exact hkl); (decide); (exact HE1.out); intro wx stx hax) | ((with_reducible apply (wpl_storeQ (α := EnrR) (k := k) (j := 2) (s := 71) (m := 32))); (exact rfl); (exact rfl); (exact hax); infer_instance; (exact H32.size _); (decide); (exact (u8s_one _)); (exact rfl); (exact hkl2); (decide); (exact HE2.out); intro wy sty hay) | ((with_reducible apply (wpl_fieldE (t := 114))); (exact Tryz.underlying114); (exact rfl); (kernel_rfl); (exact rfl); infer_instance; (exact cells_pos (by decide) (by omega))))
  refine wpList_nil ?_
  unfold onlyN
  refine hK_.out _ _ inferInstance (fun _ => ?_)
  clear hK_ K_
  try simp only [Act.put, sA]; try simp only [sB, sC]
  refine goH (i := 14) (by kernel_rfl) rfl (fun K_ hK_ => ?_)
  rw [if_pos (by kernel_rfl)]
  refine wpr_of_list ?_
  (first | ((with_reducible apply (wpl_storeC (α := EnrR) (k := k) (j := 1) (s := 71))); (exact rfl); (exact rfl); infer_instance; infer_instance; (exact rfl); (exact rfl); (exact hkl); (decide); (exact HE1.out); intro wx stx hax) | ((with_reducible apply (wpl_storeQ (α := EnrR) (k := k) (j := 2) (s := 71) (m := 32))); (exact rfl); (exact rfl); (exact hax); infer_instance; (exact H32.size _); (decide); (exact (u8s_one _)); (exact rfl); (exact hkl2); (decide); (exact HE2.out); intro wy sty hay) | ((with_reducible apply wpl_storerow); (exact rfl); (exact rfl); infer_instance; infer_instance; (first | (with_reducible assumption) | (with_reducible exact H32.size _) | (with_reducible exact enc_sz _ rfl) | kernel_rfl); (first | (with_reducible assumption) | (with_reducible exact H32.size _) | (with_reducible exact enc_sz _ rfl) | kernel_rfl); (first | (with_reducible exact u8s_one _) | (with_reducible assumption) | (with_reducible exact enc_one _) | kernel_rfl); intro ws _ _) | ((with_reducible apply wpl_storecell); (exact rfl); (exact rfl); infer_instance; (exact rfl); (first | (with_reducible assumption) | omega | (focus (simp; done)) | (focus (simp; omega; done)) | decide); intro ws _ _) | ((with_reducible apply (wpl_storehash (t := 23))); (exact rfl); (exact rfl); infer_instance; infer_instance; (first | (with_reducible assumption) | omega | (focus (simp; done)) | (focus (simp; omega; done)) | decide); intro ws _ _) | ((with_reducible apply (wpl_storebyteH (t := 5))); (exact rfl); (exact rfl); infer_instance; (first | (with_reducible assumption) | omega); (first | (with_reducible assumption) | omega); (first | (constructor <;> omega) | exact xor_u8_in _ _); intro ws _ _) | ((with_reducible apply (wpl_storeint (t := 3))); (exact rfl); (exact rfl); infer_instance; (first | (with_reducible assumption) | omega); intro ws _ _) | ((with_reducible apply (wpl_storebyte (t := 5))); (exact rfl); (exact rfl); infer_instance; (first | (with_reducible assumption) | omega | (focus (simp; done)) | (focus (simp; omega; done)) | decide); (constructor <;> omega); intro ws _ _))
  refine wpList_nil ?_
  unfold onlyN
  refine hK_.out _ _ inferInstance (fun _ => ?_)
  clear hK_ K_
  try simp only [Act.put]
  refine goH (i := 15) (by kernel_rfl) rfl (fun K_ hK_ => ?_)
  rw [if_pos (by kernel_rfl)]
  refine wpr_of_list ?_
  (first | ((with_reducible apply (wpl_storeC (α := EnrR) (k := k) (j := 1) (s := 71))); (exact rfl); (exact rfl); infer_instance; infer_instance; (exact rfl); (exact rfl); (exact hkl); (decide); (exact HE1.out); intro wx stx hax) | ((with_reducible apply (wpl_storeQ (α := EnrR) (k := k) (j := 2) (s := 71) (m := 32))); (exact rfl); (exact rfl); (exact hax); infer_instance; (exact H32.size _); (decide); (exact (u8s_one _)); (exact rfl); (exact hkl2); (decide); (exact HE2.out); intro wy sty hay) | ((with_reducible apply wpl_indexH); (exact rfl); (exact rfl); infer_instance; infer_instance; (first | (with_reducible assumption) | omega); (first | (with_reducible assumption) | omega); (first | (with_reducible assumption) | omega)) | ((with_reducible apply wpl_indexH'); (exact rfl); (exact rfl); infer_instance; infer_instance; (first | (with_reducible assumption) | omega); (first | (with_reducible assumption) | omega); (first | (with_reducible assumption) | omega)) | ((with_reducible apply (wpl_indexE (α := EnrR) (t := 105))); (exact rfl); (exact rfl); infer_instance; infer_instance; (first | (with_reducible assumption) | omega | (focus (simp; done)) | (focus (simp; omega; done)) | decide); (exact rfl); (decide); (first | (with_reducible assumption) | omega | (focus (simp; done)) | (focus (simp; omega; done)) | decide)) | ((with_reducible apply (wpl_indexE0 (α := EnrR) (t := 105))); (exact rfl); infer_instance; infer_instance; (first | (with_reducible assumption) | omega | (focus (simp; done)) | (focus (simp; omega; done)) | decide); (exact rfl); (decide); (first | (with_reducible assumption) | omega | (focus (simp; done)) | (focus (simp; omega; done)) | decide)))
  refine wpList_nil ?_
  unfold onlyN
  refine hK_.out _ _ inferInstance (fun _ => ?_)
  clear hK_ K_
  try simp only [Act.put, sA]; try simp only [sB, sC]
  refine goH (i := 16) (by kernel_rfl) rfl (fun K_ hK_ => ?_)
  rw [if_pos (by kernel_rfl)]
  refine wpr_of_list ?_
  (first | ((with_reducible apply (wpl_storeC (α := EnrR) (k := k) (j := 1) (s := 71))); (exact rfl); (exact rfl); infer_instance; infer_instance; (exact rfl); (exact rfl); (exact hkl); (decide); (exact HE1.out); intro wx stx hax) | ((with_reducible apply (wpl_storeQ (α := EnrR) (k := k) (j := 2) (s := 71) (m := 32))); (exact rfl); (exact rfl); (exact hax); infer_instance; (exact H32.size _); (decide); (exact (u8s_one _)); (exact rfl); (exact hkl2); (decide); (exact HE2.out); intro wy sty hay) | ((with_reducible apply (wpl_fieldE (t := 114))); (exact Tryz.underlying114); (exact rfl); (kernel_rfl); (exact rfl); infer_instance; (exact cells_pos (by decide) (by omega))))
  refine wpList_nil ?_
  unfold onlyN
  refine hK_.out _ _ inferInstance (fun _ => ?_)
  clear hK_ K_
  try simp only [Act.put, sA]; try simp only [sB, sC]
  refine goH (i := 17) (by kernel_rfl) rfl (fun K_ hK_ => ?_)
  rw [if_pos (by kernel_rfl)]
  refine wpr_of_list ?_
  (first | ((with_reducible apply (wpl_storeC (α := EnrR) (k := k) (j := 1) (s := 71))); (exact rfl); (exact rfl); infer_instance; infer_instance; (exact rfl); (exact rfl); (exact hkl); (decide); (exact HE1.out); intro wx stx hax) | ((with_reducible apply (wpl_storeQ (α := EnrR) (k := k) (j := 2) (s := 71) (m := 32))); (exact rfl); (exact rfl); (exact hax); infer_instance; (exact H32.size _); (decide); (exact (u8s_one _)); (exact rfl); (exact hkl2); (decide); (exact HE2.out); intro wy sty hay) | ((with_reducible apply wpl_storerow); (exact rfl); (exact rfl); infer_instance; infer_instance; (first | (with_reducible assumption) | (with_reducible exact H32.size _) | (with_reducible exact enc_sz _ rfl) | kernel_rfl); (first | (with_reducible assumption) | (with_reducible exact H32.size _) | (with_reducible exact enc_sz _ rfl) | kernel_rfl); (first | (with_reducible exact u8s_one _) | (with_reducible assumption) | (with_reducible exact enc_one _) | kernel_rfl); intro ws _ _) | ((with_reducible apply wpl_storecell); (exact rfl); (exact rfl); infer_instance; (exact rfl); (first | (with_reducible assumption) | omega | (focus (simp; done)) | (focus (simp; omega; done)) | decide); intro ws _ _) | ((with_reducible apply (wpl_storehash (t := 23))); (exact rfl); (exact rfl); infer_instance; infer_instance; (first | (with_reducible assumption) | omega | (focus (simp; done)) | (focus (simp; omega; done)) | decide); intro ws _ _) | ((with_reducible apply (wpl_storebyteH (t := 5))); (exact rfl); (exact rfl); infer_instance; (first | (with_reducible assumption) | omega); (first | (with_reducible assumption) | omega); (first | (constructor <;> omega) | exact xor_u8_in _ _); intro ws _ _) | ((with_reducible apply (wpl_storeint (t := 3))); (exact rfl); (exact rfl); infer_instance; (first | (with_reducible assumption) | omega); intro ws _ _) | ((with_reducible apply (wpl_storebyte (t := 5))); (exact rfl); (exact rfl); infer_instance; (first | (with_reducible assumption) | omega | (focus (simp; done)) | (focus (simp; omega; done)) | decide); (constructor <;> omega); intro ws _ _))
  refine wpList_nil ?_
  unfold onlyN
  refine hK_.out _ _ inferInstance (fun _ => ?_)
  clear hK_ K_
  try simp only [Act.put]
  refine wpAnyH_done (by kernel_rfl) ?_ _
  all_goals
    have hfin : HO wy 114 71 A' (k + 1) c' (cellsOf (L ++ [((EnrR.new nm).setW hw).setP pub])) := by
      rw [← HG.out]
      exact hay
    have hdf : HB wy zd 107 #[.pointer (some ⟨zr, 0, none⟩), .slice A' (k + 1) c'] := inferInstance
    have hrf : HB wy zr 73 (rpL sd p0 p1 f g v (.slice B m d :: suf)).toArray := inferInstance
    have hbf : HO wy 42 37 B m d (cellsOf T) := inferInstance
    have nwf : Nw w0 wy := inferInstance
    go_wp2_with (first | go_skip | ((with_reducible apply wpl_box_agg); (exact rfl); intro z wz _ _ _) | ((with_reducible apply wpl_box_int); (exact rfl); intro z wz _ _ _) | ((with_reducible apply wpl_box_slice); (exact rfl); intro z wz _ _ _) | ((with_reducible apply wpl_box_str); (exact rfl); intro z wz _ _ _) | ((with_reducible apply wpl_box_bool); (exact rfl); intro z wz _ _ _) | ((with_reducible apply wpl_box_ptr); (exact rfl); intro z wz _ _ _) | ((with_reducible apply wpl_loadrow); (exact rfl); infer_instance; infer_instance; (first | (with_reducible assumption) | (with_reducible exact H32.size _) | (with_reducible exact enc_sz _ rfl) | kernel_rfl)) | ((with_reducible apply wpl_loadcellN); (exact rfl); infer_instance; (exact rfl)) | ((with_reducible apply wpl_storerow); (exact rfl); (exact rfl); infer_instance; infer_instance; (first | (with_reducible assumption) | (with_reducible exact H32.size _) | (with_reducible exact enc_sz _ rfl) | kernel_rfl); (first | (with_reducible assumption) | (with_reducible exact H32.size _) | (with_reducible exact enc_sz _ rfl) | kernel_rfl); (first | (with_reducible exact u8s_one _) | (with_reducible assumption) | (with_reducible exact enc_one _) | kernel_rfl); intro ws _ _) | ((with_reducible apply wpl_storecell); (exact rfl); (exact rfl); infer_instance; (exact rfl); (first | (with_reducible assumption) | omega | (focus (simp; done)) | (focus (simp; omega; done)) | decide); intro ws _ _))
    go_ret
    exact ⟨A', c', rfl, nwf, hdf, hfin, (by rw [List.length_append, HL.out]; rfl), hrf, hbf, hm, hs, zz, (fun ad e => ⟨(HAZ.out ad e).1, (HAZ.out ad e).2.1, (HAZ.out ad e).2.2.2.1⟩), bz, ld, lr, ⟨fun ad e => (HAZ.out ad e).2.2.2.2⟩, lb⟩
set_option maxRecDepth 100000 in
set_option maxHeartbeats 3200000 in
theorem enrSet_calls {w0 w : World} {zd zr : Nat} {s : DS} [nw : Nw w0 w] (D : DrAt w0 w zd zr s) (nm hw : List UInt8) (pub : H32) (h1 : nameL nm = true) (h2 : nameL hw = true) (hrise : RiseE s.L) (k : Nat) (hkl : k < s.L.length) (hkn : (gt s.L k).l = nm) (hmax : s.n ≤ 1000000) :
    Calls Tryz.prog 24 #[.pointer (some ⟨zd, 0, none⟩), .string (strL nm), .string (strL hw), .agg (u8s pub.l)] w fun e w' => e = .returned (.int .i64 0) ∧ Nw w0 w' ∧ DrAt w0 w' zd zr ⟨s.A, s.n, s.c, s.L.set k (((gt s.L k).setW hw).setP pub), s.sd, s.p0, s.p1, s.f, s.g, s.v, s.suf, s.B, s.m, s.d, s.T⟩ := by
  obtain ⟨A, n, c, L, sd, p0, p1, f, g, v, suf, B, m, d, T⟩ := s
  obtain ⟨hd, ha, hl, hr, hb, hm, hs, zz, az, bz, ld, lr, la, lb⟩ := D
  dsimp only at hd ha hl hr hb hm hs az bz la lb
  dsimp only at hrise hkl hkn hmax
  have HS := Lib.hid hrise
  have HL := Lib.hid hl
  have HN := Lib.hid hmax
  have HKN := Lib.hid hkn
  have hkn2 : k < n := by omega
  have hn9 : n ≤ 9223372036854775807 := by omega
  have hdl := hd.out.lt
  have hrl := hr.out.lt
  have oAd : OffB (rowOf A) zd := ⟨fun ⟨ad, e, h⟩ => (az ad e).1 h⟩
  have oAr : OffB (rowOf A) zr := ⟨fun ⟨ad, e, h⟩ => (az ad e).2.1 h⟩
  have oAB : OffA (rowOf A) B := ⟨fun bd e ⟨ad, e2, h⟩ => (az ad e2).2.2 bd e h⟩
  have aA : Above w0 (rowOf A) := ⟨fun x ⟨ad, e, h⟩ => by have := la.out ad e; omega⟩
  clear hrise hl hkn
  go_enter Tryz.func24, Tryz.ntmps24
  go_wp2_with (first | go_skip | ((with_reducible apply (wpl_box_agg (dst := some 7))); (exact rfl); intro zp wzp _ _ _) | ((with_reducible apply (wpl_box_int (dst := some 7))); (exact rfl); intro zp wzp _ _ _) | ((with_reducible apply (wpl_box_slice (dst := some 7))); (exact rfl); intro zp wzp _ _ _) | ((with_reducible apply (wpl_box_str (dst := some 7))); (exact rfl); intro zp wzp _ _ _) | ((with_reducible apply (wpl_box_bool (dst := some 7))); (exact rfl); intro zp wzp _ _ _) | ((with_reducible apply (wpl_box_ptr (dst := some 7))); (exact rfl); intro zp wzp _ _ _) | ((with_reducible apply wpl_box_agg); (exact rfl); intro z wz _ _ _) | ((with_reducible apply wpl_box_int); (exact rfl); intro z wz _ _ _) | ((with_reducible apply wpl_box_slice); (exact rfl); intro z wz _ _ _) | ((with_reducible apply wpl_box_str); (exact rfl); intro z wz _ _ _) | ((with_reducible apply wpl_box_bool); (exact rfl); intro z wz _ _ _) | ((with_reducible apply wpl_box_ptr); (exact rfl); intro z wz _ _ _) | ((with_reducible apply wpl_loadrow); (exact rfl); infer_instance; infer_instance; (first | (with_reducible assumption) | (with_reducible exact H32.size _) | (with_reducible exact enc_sz _ rfl) | kernel_rfl)) | ((with_reducible apply wpl_loadcellN); (exact rfl); infer_instance; (exact rfl)) | ((with_reducible apply wpl_storerow); (exact rfl); (exact rfl); infer_instance; infer_instance; (first | (with_reducible assumption) | (with_reducible exact H32.size _) | (with_reducible exact enc_sz _ rfl) | kernel_rfl); (first | (with_reducible assumption) | (with_reducible exact H32.size _) | (with_reducible exact enc_sz _ rfl) | kernel_rfl); (first | (with_reducible exact u8s_one _) | (with_reducible assumption) | (with_reducible exact enc_one _) | kernel_rfl); intro ws _ _) | ((with_reducible apply wpl_storecell); (exact rfl); (exact rfl); infer_instance; (exact rfl); (first | (with_reducible assumption) | omega | (focus (simp; done)) | (focus (simp; omega; done)) | decide); intro ws _ _))
  have hzp : w.heap.size ≤ zp := Nat.le_of_eq (inferInstance : Born w zp).eq.symm
  have oAp : OffB (rowOf A) zp := ⟨fun ⟨ad, e, h⟩ => by have := ha.out.lt e; omega⟩
  refine (wname_calls (strL nm) nm rfl _).mono ?_
  rw [h1]
  rintro e w5 ⟨rfl, _⟩
  go_wp2_with (first | go_skip | ((with_reducible apply wpl_box_agg); (exact rfl); intro z wz _ _ _) | ((with_reducible apply wpl_box_int); (exact rfl); intro z wz _ _ _) | ((with_reducible apply wpl_box_slice); (exact rfl); intro z wz _ _ _) | ((with_reducible apply wpl_box_str); (exact rfl); intro z wz _ _ _) | ((with_reducible apply wpl_box_bool); (exact rfl); intro z wz _ _ _) | ((with_reducible apply wpl_box_ptr); (exact rfl); intro z wz _ _ _) | ((with_reducible apply wpl_loadrow); (exact rfl); infer_instance; infer_instance; (first | (with_reducible assumption) | (with_reducible exact H32.size _) | (with_reducible exact enc_sz _ rfl) | kernel_rfl)) | ((with_reducible apply wpl_loadcellN); (exact rfl); infer_instance; (exact rfl)) | ((with_reducible apply wpl_storerow); (exact rfl); (exact rfl); infer_instance; infer_instance; (first | (with_reducible assumption) | (with_reducible exact H32.size _) | (with_reducible exact enc_sz _ rfl) | kernel_rfl); (first | (with_reducible assumption) | (with_reducible exact H32.size _) | (with_reducible exact enc_sz _ rfl) | kernel_rfl); (first | (with_reducible exact u8s_one _) | (with_reducible assumption) | (with_reducible exact enc_one _) | kernel_rfl); intro ws _ _) | ((with_reducible apply wpl_storecell); (exact rfl); (exact rfl); infer_instance; (exact rfl); (first | (with_reducible assumption) | omega | (focus (simp; done)) | (focus (simp; omega; done)) | decide); intro ws _ _))
  refine (wname_calls (strL hw) hw rfl _).mono ?_
  rw [h2]
  rintro e w6 ⟨rfl, _⟩
  have hd6 : HB w6 zd 107 #[.pointer (some ⟨zr, 0, none⟩), .slice A n c] := inferInstance
  have ha6 : HO w6 114 71 A n c (cellsOf L) := inferInstance
  go_wp2_with (first | go_skip | ((with_reducible apply wpl_box_agg); (exact rfl); intro z wz _ _ _) | ((with_reducible apply wpl_box_int); (exact rfl); intro z wz _ _ _) | ((with_reducible apply wpl_box_slice); (exact rfl); intro z wz _ _ _) | ((with_reducible apply wpl_box_str); (exact rfl); intro z wz _ _ _) | ((with_reducible apply wpl_box_bool); (exact rfl); intro z wz _ _ _) | ((with_reducible apply wpl_box_ptr); (exact rfl); intro z wz _ _ _) | ((with_reducible apply wpl_loadrow); (exact rfl); infer_instance; infer_instance; (first | (with_reducible assumption) | (with_reducible exact H32.size _) | (with_reducible exact enc_sz _ rfl) | kernel_rfl)) | ((with_reducible apply wpl_loadcellN); (exact rfl); infer_instance; (exact rfl)) | ((with_reducible apply wpl_storerow); (exact rfl); (exact rfl); infer_instance; infer_instance; (first | (with_reducible assumption) | (with_reducible exact H32.size _) | (with_reducible exact enc_sz _ rfl) | kernel_rfl); (first | (with_reducible assumption) | (with_reducible exact H32.size _) | (with_reducible exact enc_sz _ rfl) | kernel_rfl); (first | (with_reducible exact u8s_one _) | (with_reducible assumption) | (with_reducible exact enc_one _) | kernel_rfl); intro ws _ _) | ((with_reducible apply wpl_storecell); (exact rfl); (exact rfl); infer_instance; (exact rfl); (first | (with_reducible assumption) | omega | (focus (simp; done)) | (focus (simp; omega; done)) | decide); intro ws _ _))
  refine (placeE_calls nm (by have := HL.out; omega) (by have := HN.out; omega) HS.out).mono ?_
  rintro e w7 ⟨j, rfl, hp, st7⟩
  have hjk : j = k := by
    have e1 : ¬ k < j := fun h => by
      have h5 := hp.out.2.1 k h
      rw [HKN.out, bytesLess_irr] at h5
      cases h5
    have e2 : ¬ j < k := fun h => by
      have h5 := hp.out.2.2 j (Nat.le_refl _) (by omega)
      have h6 := HS.out j k h hkl
      rw [HKN.out, h5] at h6
      cases h6
    omega
  subst hjk
  have hin : inE L nm j = true := by
    unfold inE
    rw [decide_eq_true hkl, decide_eq_true HKN.out]
    rfl
  rw [hin]
  have hd9 : HB w7 zd 107 #[.pointer (some ⟨zr, 0, none⟩), .slice A n c] := inferInstance
  have ha9 : HO w7 114 71 A n c (cellsOf L) := inferInstance
  have hr9 : HB w7 zr 73 (rpL sd p0 p1 f g v (.slice B m d :: suf)).toArray := inferInstance
  have hb9 : HO w7 42 37 B m d (cellsOf T) := inferInstance
  have hp9 : HB w7 zp 23 (u8s pub.l) := inferInstance
  have nw9 : Nw w0 w7 := inferInstance
  clear hin hp
  go_wp2_with (first | go_skip | ((with_reducible apply wpl_box_agg); (exact rfl); intro z wz _ _ _) | ((with_reducible apply wpl_box_int); (exact rfl); intro z wz _ _ _) | ((with_reducible apply wpl_box_slice); (exact rfl); intro z wz _ _ _) | ((with_reducible apply wpl_box_str); (exact rfl); intro z wz _ _ _) | ((with_reducible apply wpl_box_bool); (exact rfl); intro z wz _ _ _) | ((with_reducible apply wpl_box_ptr); (exact rfl); intro z wz _ _ _) | ((with_reducible apply wpl_loadrow); (exact rfl); infer_instance; infer_instance; (first | (with_reducible assumption) | (with_reducible exact H32.size _) | (with_reducible exact enc_sz _ rfl) | kernel_rfl)) | ((with_reducible apply wpl_loadcellN); (exact rfl); infer_instance; (exact rfl)) | ((with_reducible apply wpl_storerow); (exact rfl); (exact rfl); infer_instance; infer_instance; (first | (with_reducible assumption) | (with_reducible exact H32.size _) | (with_reducible exact enc_sz _ rfl) | kernel_rfl); (first | (with_reducible assumption) | (with_reducible exact H32.size _) | (with_reducible exact enc_sz _ rfl) | kernel_rfl); (first | (with_reducible exact u8s_one _) | (with_reducible assumption) | (with_reducible exact enc_one _) | kernel_rfl); intro ws _ _) | ((with_reducible apply wpl_storecell); (exact rfl); (exact rfl); infer_instance; (exact rfl); (first | (with_reducible assumption) | omega | (focus (simp; done)) | (focus (simp; omega; done)) | decide); intro ws _ _))
  obtain ⟨R1, hR1⟩ : ∃ R1, R1 = (gt L j).setW hw := ⟨_, rfl⟩
  obtain ⟨R2, hR2⟩ : ∃ R2, R2 = ((gt L j).setW hw).setP pub := ⟨_, rfl⟩
  have hset2 : (L.set j R1).set j R2 = L.set j R2 := List.set_set _
  have hE1 : RowC.enc R1 = (RowC.enc (gt L j)).take 1 ++ [.string (strL hw)] ++ (RowC.enc (gt L j)).drop (1 + 1) := by rw [hR1]; exact enc_setW _ _
  have hE2 : RowC.enc R2 = (RowC.enc (gt (L.set j R1) j)).take 2 ++ (u8s pub.l).toList ++ (RowC.enc (gt (L.set j R1) j)).drop (2 + 32) := by rw [gt_setE _ _ _ hkl, hR2, hR1]; exact enc_setP _ _
  have hkl2 : j < (L.set j R1).length := by rw [List.length_set]; exact hkl
  have hMl : L.length = n := HL.out
  have hMl2 : (L.set j R1).length = n := by rw [List.length_set]; exact hMl
  have HE1 := Lib.hid hE1
  have HE2 := Lib.hid hE2
  have HG := Lib.hid hset2
  have HR2 := Lib.hid hR2
  clear hset2 hE1 hE2 hR1 hR2
  refine wp_region_N ((rowOf A)) (by kernel_rfl) (fun wd _ _ => ?_)
  refine' takeH (i := 0) (v := _) rfl (by kernel_rfl) (by kernel_rfl) (by kernel_rfl) (fun _ _ _ h => h) (yields_of (by rfl) (fun w' _ => ?_)) inferInstance ?_
  rotate_left
  · (go_simp; try with_reducible rfl)
  try simp only [Act.put, sA]; try simp only [sB, sC]
  refine' takeH (i := 1) (v := _) rfl (by kernel_rfl) (by kernel_rfl) (by kernel_rfl) (fun _ _ _ h => h) (yields_of (by rfl) (fun w' _ => ?_)) inferInstance ?_
  rotate_left
  · (go_simp; try with_reducible rfl)
  try simp only [Act.put, sA]; try simp only [sB, sC]
  refine' takeH (i := 2) (v := _) rfl (by kernel_rfl) (by kernel_rfl) (by kernel_rfl) (fun _ _ _ h => h) (yields_of (by rfl) (fun w' _ => ?_)) inferInstance ?_
  rotate_left
  · (first | ((with_reducible apply (ev_fieldE (t := 114))); (exact Tryz.underlying114); (exact rfl); (kernel_rfl); (exact rfl); infer_instance; (exact cells_pos (by decide) (by omega))) | (go_simp; try with_reducible rfl))
  try simp only [Act.put, sA]; try simp only [sB, sC]
  refine' takeH (i := 3) (v := _) rfl (by kernel_rfl) (by kernel_rfl) (by kernel_rfl) (fun _ _ _ h => h) (yields_of (by rfl) (fun w' _ => ?_)) inferInstance ?_
  rotate_left
  · (first | ((with_reducible apply ev_loadrow); (exact rfl); infer_instance; infer_instance; (first | (with_reducible assumption) | (with_reducible exact H32.size _) | (with_reducible exact enc_sz _ rfl) | kernel_rfl)) | ((with_reducible apply (ev_loadhash (t := 23))); (exact rfl); infer_instance; infer_instance; (first | (with_reducible assumption) | omega)) | ((with_reducible apply ev_loadcellN); (exact rfl); infer_instance; infer_instance; (exact rfl)) | ((with_reducible apply (ev_loadE (α := EnrR) (t := 114))); infer_instance; (exact rfl); infer_instance; (exact rfl); (decide); (first | (with_reducible assumption) | omega | (focus (simp; done)) | (focus (simp; omega; done)) | decide)) | ((with_reducible apply (ev_loadF (α := EnrR))); infer_instance; (exact rfl); infer_instance; (exact rfl); (first | (with_reducible assumption) | omega | (focus (simp; done)) | (focus (simp; omega; done)) | decide); (exact rfl)) | ((with_reducible apply (ev_loadint (t := 3))); (exact rfl); infer_instance; infer_instance; (first | (with_reducible assumption) | omega)) | ((with_reducible apply (ev_loadbyte (t := 5))); (exact rfl); infer_instance; infer_instance; (first | (with_reducible assumption) | omega)) | (go_simp; try with_reducible rfl))
  try simp only [Act.put, sA]; try simp only [sB, sC]
  refine' takeH (i := 4) (v := _) rfl (by kernel_rfl) (by kernel_rfl) (by kernel_rfl) (fun _ _ _ h => h) (yields_of (by rfl) (fun w' _ => ?_)) inferInstance ?_
  rotate_left
  · (go_simp; try with_reducible rfl)
  try simp only [Act.put, sA]; try simp only [sB, sC]
  refine' takeH (i := 5) (v := _) rfl (by kernel_rfl) (by kernel_rfl) (by kernel_rfl) (fun _ _ _ h => h) (yields_of (by rfl) (fun w' _ => ?_)) inferInstance ?_
  rotate_left
  · (go_simp; try with_reducible rfl)
  try simp only [Act.put, sA]; try simp only [sB, sC]
  refine' takeH (i := 6) (v := _) rfl (by kernel_rfl) (by kernel_rfl) (by kernel_rfl) (fun _ _ _ h => h) (yields_of (by rfl) (fun w' _ => ?_)) inferInstance ?_
  rotate_left
  · (go_simp; try with_reducible rfl)
  try simp only [Act.put, sA]; try simp only [sB, sC]
  refine' takeH (i := 7) (v := _) rfl (by kernel_rfl) (by kernel_rfl) (by kernel_rfl) (fun _ _ _ h => h) (yields_of (by rfl) (fun w' _ => ?_)) inferInstance ?_
  rotate_left
  · (first | ((with_reducible apply (ev_fieldE (t := 114))); (exact Tryz.underlying114); (exact rfl); (kernel_rfl); (exact rfl); infer_instance; (exact cells_pos (by decide) (by omega))) | (go_simp; try with_reducible rfl))
  try simp only [Act.put, sA]; try simp only [sB, sC]
  refine' takeH (i := 8) (v := _) rfl (by kernel_rfl) (by kernel_rfl) (by kernel_rfl) (fun _ _ _ h => h) (yields_of (by rfl) (fun w' _ => ?_)) inferInstance ?_
  rotate_left
  · (first | ((with_reducible apply ev_loadrow); (exact rfl); infer_instance; infer_instance; (first | (with_reducible assumption) | (with_reducible exact H32.size _) | (with_reducible exact enc_sz _ rfl) | kernel_rfl)) | ((with_reducible apply (ev_loadhash (t := 23))); (exact rfl); infer_instance; infer_instance; (first | (with_reducible assumption) | omega)) | ((with_reducible apply ev_loadcellN); (exact rfl); infer_instance; infer_instance; (exact rfl)) | ((with_reducible apply (ev_loadE (α := EnrR) (t := 114))); infer_instance; (exact rfl); infer_instance; (exact rfl); (decide); (first | (with_reducible assumption) | omega | (focus (simp; done)) | (focus (simp; omega; done)) | decide)) | ((with_reducible apply (ev_loadF (α := EnrR))); infer_instance; (exact rfl); infer_instance; (exact rfl); (first | (with_reducible assumption) | omega | (focus (simp; done)) | (focus (simp; omega; done)) | decide); (exact rfl)) | ((with_reducible apply (ev_loadint (t := 3))); (exact rfl); infer_instance; infer_instance; (first | (with_reducible assumption) | omega)) | ((with_reducible apply (ev_loadbyte (t := 5))); (exact rfl); infer_instance; infer_instance; (first | (with_reducible assumption) | omega)) | (go_simp; try with_reducible rfl))
  try simp only [Act.put, sA]; try simp only [sB, sC]
  refine' takeH (i := 9) (v := _) rfl (by kernel_rfl) (by kernel_rfl) (by kernel_rfl) (fun _ _ _ h => h) (yields_of (by rfl) (fun w' _ => ?_)) inferInstance ?_
  rotate_left
  · (go_simp; try with_reducible rfl)
  try simp only [Act.put, sA]; try simp only [sB, sC]
  refine' takeH (i := 10) (v := _) rfl (by kernel_rfl) (by kernel_rfl) (by kernel_rfl) (fun _ _ _ h => h) (yields_of (by rfl) (fun w' _ => ?_)) inferInstance ?_
  rotate_left
  · (go_simp; try with_reducible rfl)
  try simp only [Act.put, sA]; try simp only [sB, sC]
  refine' takeH (i := 11) (v := _) rfl (by kernel_rfl) (by kernel_rfl) (by kernel_rfl) (fun _ _ _ h => h) (yields_of (by rfl) (fun w' _ => ?_)) inferInstance ?_
  rotate_left
  · (first | ((with_reducible apply ev_loadrow); (exact rfl); infer_instance; infer_instance; (first | (with_reducible assumption) | (with_reducible exact H32.size _) | (with_reducible exact enc_sz _ rfl) | kernel_rfl)) | ((with_reducible apply (ev_loadhash (t := 23))); (exact rfl); infer_instance; infer_instance; (first | (with_reducible assumption) | omega)) | ((with_reducible apply ev_loadcellN); (exact rfl); infer_instance; infer_instance; (exact rfl)) | ((with_reducible apply (ev_loadE (α := EnrR) (t := 114))); infer_instance; (exact rfl); infer_instance; (exact rfl); (decide); (first | (with_reducible assumption) | omega | (focus (simp; done)) | (focus (simp; omega; done)) | decide)) | ((with_reducible apply (ev_loadF (α := EnrR))); infer_instance; (exact rfl); infer_instance; (exact rfl); (first | (with_reducible assumption) | omega | (focus (simp; done)) | (focus (simp; omega; done)) | decide); (exact rfl)) | ((with_reducible apply (ev_loadint (t := 3))); (exact rfl); infer_instance; infer_instance; (first | (with_reducible assumption) | omega)) | ((with_reducible apply (ev_loadbyte (t := 5))); (exact rfl); infer_instance; infer_instance; (first | (with_reducible assumption) | omega)) | (go_simp; try with_reducible rfl))
  try simp only [Act.put, sA]; try simp only [sB, sC]
  refine goH (i := 12) (by kernel_rfl) rfl (fun K_ hK_ => ?_)
  rw [if_pos (by kernel_rfl)]
  refine wpr_of_list ?_
  (first | ((with_reducible apply (wpl_storeC (α := EnrR) (k := j) (j := 1) (s := 71))); (exact rfl); (exact rfl); infer_instance; infer_instance; (exact rfl); (exact rfl); (exact hkl); (decide); (exact HE1.out); intro wx stx hax) | ((with_reducible apply (wpl_storeQ (α := EnrR) (k := j) (j := 2) (s := 71) (m := 32))); (exact rfl); (exact rfl); (exact hax); infer_instance; (exact H32.size _); (decide); (exact (u8s_one _)); (exact rfl); (exact hkl2); (decide); (exact HE2.out); intro wy sty hay) | ((with_reducible apply wpl_indexH); (exact rfl); (exact rfl); infer_instance; infer_instance; (first | (with_reducible assumption) | omega); (first | (with_reducible assumption) | omega); (first | (with_reducible assumption) | omega)) | ((with_reducible apply wpl_indexH'); (exact rfl); (exact rfl); infer_instance; infer_instance; (first | (with_reducible assumption) | omega); (first | (with_reducible assumption) | omega); (first | (with_reducible assumption) | omega)) | ((with_reducible apply (wpl_indexE (α := EnrR) (t := 105))); (exact rfl); (exact rfl); infer_instance; infer_instance; (first | (with_reducible assumption) | omega | (focus (simp; done)) | (focus (simp; omega; done)) | decide); (exact rfl); (decide); (first | (with_reducible assumption) | omega | (focus (simp; done)) | (focus (simp; omega; done)) | decide)) | ((with_reducible apply (wpl_indexE0 (α := EnrR) (t := 105))); (exact rfl); infer_instance; infer_instance; (first | (with_reducible assumption) | omega | (focus (simp; done)) | (focus (simp; omega; done)) | decide); (exact rfl); (decide); (first | (with_reducible assumption) | omega | (focus (simp; done)) | (focus (simp; omega; done)) | decide)))
  refine wpList_nil ?_
  unfold onlyN
  refine hK_.out _ _ inferInstance (fun _ => ?_)
  clear hK_ K_
  try simp only [Act.put, sA]; try simp only [sB, sC]
  refine goH (i := 13) (by kernel_rfl) rfl (fun K_ hK_ => ?_)
  rw [if_pos (by kernel_rfl)]
  refine wpr_of_list ?_
  (first | ((with_reducible apply (wpl_storeC (α := EnrR) (k := j) (j := 1) (s := 71))); (exact rfl); (exact rfl); infer_instance; infer_instance; (exact rfl); (exact rfl); (exact hkl); (decide); (exact HE1.out); intro wx stx hax) | ((with_reducible apply (wpl_storeQ (α := EnrR) (k := j) (j := 2) (s := 71) (m := 32))); (exact rfl); (exact rfl); (exact hax); infer_instance; (exact H32.size _); (decide); (exact (u8s_one _)); (exact rfl); (exact hkl2); (decide); (exact HE2.out); intro wy sty hay) | ((with_reducible apply (wpl_fieldE (t := 114))); (exact Tryz.underlying114); (exact rfl); (kernel_rfl); (exact rfl); infer_instance; (exact cells_pos (by decide) (by omega))))
  refine wpList_nil ?_
  unfold onlyN
  refine hK_.out _ _ inferInstance (fun _ => ?_)
  clear hK_ K_
  try simp only [Act.put, sA]; try simp only [sB, sC]
  refine goH (i := 14) (by kernel_rfl) rfl (fun K_ hK_ => ?_)
  rw [if_pos (by kernel_rfl)]
  refine wpr_of_list ?_
  (first | ((with_reducible apply (wpl_storeC (α := EnrR) (k := j) (j := 1) (s := 71))); (exact rfl); (exact rfl); infer_instance; infer_instance; (exact rfl); (exact rfl); (exact hkl); (decide); (exact HE1.out); intro wx stx hax) | ((with_reducible apply (wpl_storeQ (α := EnrR) (k := j) (j := 2) (s := 71) (m := 32))); (exact rfl); (exact rfl); (exact hax); infer_instance; (exact H32.size _); (decide); (exact (u8s_one _)); (exact rfl); (exact hkl2); (decide); (exact HE2.out); intro wy sty hay) | ((with_reducible apply wpl_storerow); (exact rfl); (exact rfl); infer_instance; infer_instance; (first | (with_reducible assumption) | (with_reducible exact H32.size _) | (with_reducible exact enc_sz _ rfl) | kernel_rfl); (first | (with_reducible assumption) | (with_reducible exact H32.size _) | (with_reducible exact enc_sz _ rfl) | kernel_rfl); (first | (with_reducible exact u8s_one _) | (with_reducible assumption) | (with_reducible exact enc_one _) | kernel_rfl); intro ws _ _) | ((with_reducible apply wpl_storecell); (exact rfl); (exact rfl); infer_instance; (exact rfl); (first | (with_reducible assumption) | omega | (focus (simp; done)) | (focus (simp; omega; done)) | decide); intro ws _ _) | ((with_reducible apply (wpl_storehash (t := 23))); (exact rfl); (exact rfl); infer_instance; infer_instance; (first | (with_reducible assumption) | omega | (focus (simp; done)) | (focus (simp; omega; done)) | decide); intro ws _ _) | ((with_reducible apply (wpl_storebyteH (t := 5))); (exact rfl); (exact rfl); infer_instance; (first | (with_reducible assumption) | omega); (first | (with_reducible assumption) | omega); (first | (constructor <;> omega) | exact xor_u8_in _ _); intro ws _ _) | ((with_reducible apply (wpl_storeint (t := 3))); (exact rfl); (exact rfl); infer_instance; (first | (with_reducible assumption) | omega); intro ws _ _) | ((with_reducible apply (wpl_storebyte (t := 5))); (exact rfl); (exact rfl); infer_instance; (first | (with_reducible assumption) | omega | (focus (simp; done)) | (focus (simp; omega; done)) | decide); (constructor <;> omega); intro ws _ _))
  refine wpList_nil ?_
  unfold onlyN
  refine hK_.out _ _ inferInstance (fun _ => ?_)
  clear hK_ K_
  try simp only [Act.put]
  refine goH (i := 15) (by kernel_rfl) rfl (fun K_ hK_ => ?_)
  rw [if_pos (by kernel_rfl)]
  refine wpr_of_list ?_
  (first | ((with_reducible apply (wpl_storeC (α := EnrR) (k := j) (j := 1) (s := 71))); (exact rfl); (exact rfl); infer_instance; infer_instance; (exact rfl); (exact rfl); (exact hkl); (decide); (exact HE1.out); intro wx stx hax) | ((with_reducible apply (wpl_storeQ (α := EnrR) (k := j) (j := 2) (s := 71) (m := 32))); (exact rfl); (exact rfl); (exact hax); infer_instance; (exact H32.size _); (decide); (exact (u8s_one _)); (exact rfl); (exact hkl2); (decide); (exact HE2.out); intro wy sty hay) | ((with_reducible apply wpl_indexH); (exact rfl); (exact rfl); infer_instance; infer_instance; (first | (with_reducible assumption) | omega); (first | (with_reducible assumption) | omega); (first | (with_reducible assumption) | omega)) | ((with_reducible apply wpl_indexH'); (exact rfl); (exact rfl); infer_instance; infer_instance; (first | (with_reducible assumption) | omega); (first | (with_reducible assumption) | omega); (first | (with_reducible assumption) | omega)) | ((with_reducible apply (wpl_indexE (α := EnrR) (t := 105))); (exact rfl); (exact rfl); infer_instance; infer_instance; (first | (with_reducible assumption) | omega | (focus (simp; done)) | (focus (simp; omega; done)) | decide); (exact rfl); (decide); (first | (with_reducible assumption) | omega | (focus (simp; done)) | (focus (simp; omega; done)) | decide)) | ((with_reducible apply (wpl_indexE0 (α := EnrR) (t := 105))); (exact rfl); infer_instance; infer_instance; (first | (with_reducible assumption) | omega | (focus (simp; done)) | (focus (simp; omega; done)) | decide); (exact rfl); (decide); (first | (with_reducible assumption) | omega | (focus (simp; done)) | (focus (simp; omega; done)) | decide)))
  refine wpList_nil ?_
  unfold onlyN
  refine hK_.out _ _ inferInstance (fun _ => ?_)
  clear hK_ K_
  try simp only [Act.put, sA]; try simp only [sB, sC]
  refine goH (i := 16) (by kernel_rfl) rfl (fun K_ hK_ => ?_)
  rw [if_pos (by kernel_rfl)]
  refine wpr_of_list ?_
  (first | ((with_reducible apply (wpl_storeC (α := EnrR) (k := j) (j := 1) (s := 71))); (exact rfl); (exact rfl); infer_instance; infer_instance; (exact rfl); (exact rfl); (exact hkl); (decide); (exact HE1.out); intro wx stx hax) | ((with_reducible apply (wpl_storeQ (α := EnrR) (k := j) (j := 2) (s := 71) (m := 32))); (exact rfl); (exact rfl); (exact hax); infer_instance; (exact H32.size _); (decide); (exact (u8s_one _)); (exact rfl); (exact hkl2); (decide); (exact HE2.out); intro wy sty hay) | ((with_reducible apply (wpl_fieldE (t := 114))); (exact Tryz.underlying114); (exact rfl); (kernel_rfl); (exact rfl); infer_instance; (exact cells_pos (by decide) (by omega))))
  refine wpList_nil ?_
  unfold onlyN
  refine hK_.out _ _ inferInstance (fun _ => ?_)
  clear hK_ K_
  try simp only [Act.put, sA]; try simp only [sB, sC]
  refine goH (i := 17) (by kernel_rfl) rfl (fun K_ hK_ => ?_)
  rw [if_pos (by kernel_rfl)]
  refine wpr_of_list ?_
  (first | ((with_reducible apply (wpl_storeC (α := EnrR) (k := j) (j := 1) (s := 71))); (exact rfl); (exact rfl); infer_instance; infer_instance; (exact rfl); (exact rfl); (exact hkl); (decide); (exact HE1.out); intro wx stx hax) | ((with_reducible apply (wpl_storeQ (α := EnrR) (k := j) (j := 2) (s := 71) (m := 32))); (exact rfl); (exact rfl); (exact hax); infer_instance; (exact H32.size _); (decide); (exact (u8s_one _)); (exact rfl); (exact hkl2); (decide); (exact HE2.out); intro wy sty hay) | ((with_reducible apply wpl_storerow); (exact rfl); (exact rfl); infer_instance; infer_instance; (first | (with_reducible assumption) | (with_reducible exact H32.size _) | (with_reducible exact enc_sz _ rfl) | kernel_rfl); (first | (with_reducible assumption) | (with_reducible exact H32.size _) | (with_reducible exact enc_sz _ rfl) | kernel_rfl); (first | (with_reducible exact u8s_one _) | (with_reducible assumption) | (with_reducible exact enc_one _) | kernel_rfl); intro ws _ _) | ((with_reducible apply wpl_storecell); (exact rfl); (exact rfl); infer_instance; (exact rfl); (first | (with_reducible assumption) | omega | (focus (simp; done)) | (focus (simp; omega; done)) | decide); intro ws _ _) | ((with_reducible apply (wpl_storehash (t := 23))); (exact rfl); (exact rfl); infer_instance; infer_instance; (first | (with_reducible assumption) | omega | (focus (simp; done)) | (focus (simp; omega; done)) | decide); intro ws _ _) | ((with_reducible apply (wpl_storebyteH (t := 5))); (exact rfl); (exact rfl); infer_instance; (first | (with_reducible assumption) | omega); (first | (with_reducible assumption) | omega); (first | (constructor <;> omega) | exact xor_u8_in _ _); intro ws _ _) | ((with_reducible apply (wpl_storeint (t := 3))); (exact rfl); (exact rfl); infer_instance; (first | (with_reducible assumption) | omega); intro ws _ _) | ((with_reducible apply (wpl_storebyte (t := 5))); (exact rfl); (exact rfl); infer_instance; (first | (with_reducible assumption) | omega | (focus (simp; done)) | (focus (simp; omega; done)) | decide); (constructor <;> omega); intro ws _ _))
  refine wpList_nil ?_
  unfold onlyN
  refine hK_.out _ _ inferInstance (fun _ => ?_)
  clear hK_ K_
  try simp only [Act.put]
  refine wpAnyH_done (by kernel_rfl) ?_ _
  all_goals
    have hfin : HO wy 114 71 A n c (cellsOf (L.set j (((gt L j).setW hw).setP pub))) := by
      rw [← HR2.out, ← HG.out]
      exact hay
    have hdf : HB wy zd 107 #[.pointer (some ⟨zr, 0, none⟩), .slice A n c] := inferInstance
    have hrf : HB wy zr 73 (rpL sd p0 p1 f g v (.slice B m d :: suf)).toArray := inferInstance
    have hbf : HO wy 42 37 B m d (cellsOf T) := inferInstance
    have nwf : Nw w0 wy := inferInstance
    go_wp2_with (first | go_skip | ((with_reducible apply wpl_box_agg); (exact rfl); intro z wz _ _ _) | ((with_reducible apply wpl_box_int); (exact rfl); intro z wz _ _ _) | ((with_reducible apply wpl_box_slice); (exact rfl); intro z wz _ _ _) | ((with_reducible apply wpl_box_str); (exact rfl); intro z wz _ _ _) | ((with_reducible apply wpl_box_bool); (exact rfl); intro z wz _ _ _) | ((with_reducible apply wpl_box_ptr); (exact rfl); intro z wz _ _ _) | ((with_reducible apply wpl_loadrow); (exact rfl); infer_instance; infer_instance; (first | (with_reducible assumption) | (with_reducible exact H32.size _) | (with_reducible exact enc_sz _ rfl) | kernel_rfl)) | ((with_reducible apply wpl_loadcellN); (exact rfl); infer_instance; (exact rfl)) | ((with_reducible apply wpl_storerow); (exact rfl); (exact rfl); infer_instance; infer_instance; (first | (with_reducible assumption) | (with_reducible exact H32.size _) | (with_reducible exact enc_sz _ rfl) | kernel_rfl); (first | (with_reducible assumption) | (with_reducible exact H32.size _) | (with_reducible exact enc_sz _ rfl) | kernel_rfl); (first | (with_reducible exact u8s_one _) | (with_reducible assumption) | (with_reducible exact enc_one _) | kernel_rfl); intro ws _ _) | ((with_reducible apply wpl_storecell); (exact rfl); (exact rfl); infer_instance; (exact rfl); (first | (with_reducible assumption) | omega | (focus (simp; done)) | (focus (simp; omega; done)) | decide); intro ws _ _))
    go_ret
    exact ⟨rfl, nwf, hdf, hfin, (by rw [List.length_set]; exact HL.out), hrf, hbf, hm, hs, zz, az, bz, ld, lr, la, lb⟩
end Go.Proofs.YteieielodooglaaGreat
