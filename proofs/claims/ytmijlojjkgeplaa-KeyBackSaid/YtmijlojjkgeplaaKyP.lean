/- Decode. -/
import Derived.Test.YtmijlojjkgeplaaKyN
import Derived.Test.YtmijlojjkgeplaaKyB
open Go Go.RowKit
namespace Go.Proofs.Ytmijlojjkgeplaa
def dS1 (b : List UInt8) : RS := (⟨b, false⟩ : RS).num.2
def dLeaf (b : List UInt8) : Nat := (⟨b, false⟩ : RS).num.1
def dL (b : List UInt8) : List H32 := (dS1 b).hs 36
def dP (b : List UInt8) : List H32 := ((dS1 b).hAt 36).hs 4
def dS (b : List UInt8) : RS := ((dS1 b).hAt 36).hAt 4
def dWhole (b : List UInt8) : Bool := !(dS b).e && decide ((dS b).b = [])
def dOk (b : List UInt8) : Bool := dWhole b && isS (dLeaf b) 36 4
theorem dS1_le (b : List UInt8) : (dS1 b).b.length ≤ b.length := RS.num_le ⟨b, false⟩
theorem dS2_le (b : List UInt8) : ((dS1 b).hAt 36).b.length ≤ b.length := Nat.le_trans (RS.hAt_le _ _) (dS1_le b)
theorem dS_le (b : List UInt8) : (dS b).b.length ≤ b.length := Nat.le_trans (RS.hAt_le _ _) (dS2_le b)
/-- what Decode answers -/
def DecPost (b : List UInt8) (w : World) : Ending → World → Prop := fun e w' => Step nowhere w w' ∧
  if dOk b then ∃ A B c d, e = .returned (.tuple #[.agg #[.int .i64 (dLeaf b), .slice A 36 c, .slice B 4 d], .int .i64 0]) ∧ HO w' 23 32 A 36 c (cellsOf (dL b)) ∧ HO w' 23 32 B 4 d (cellsOf (dP b)) ∧ NewA w A ∧ NewA w B
  else e = .returned (.tuple #[.agg #[.int .i64 0, .slice none 0 0, .slice none 0 0], .int .i64 2])
set_option maxRecDepth 100000 in
set_option maxHeartbeats 1600000 in
theorem kdecode_calls {A : Option Addr} {n c : Nat} {b : List UInt8} {w : World} [hr : HR w A (bs b)] (hl : b.length = n) (hn : n ≤ 1000000000) :
    Calls Try.prog 34 #[.slice A n c] w (DecPost b w) := by
  have kbS : ∀ (u : Int) (zc zp : Nat) (c d : Nat) w, (Instr.build 35 #[(0, .int .i64 u), (1, .slice (some ⟨zc, 0, none⟩) 36 c), (2, .slice (some ⟨zp, 0, none⟩) 4 d)]).run Try.prog w = .ok (.agg #[.int .i64 u, .slice (some ⟨zc, 0, none⟩) 36 c, .slice (some ⟨zp, 0, none⟩) 4 d]) w := fun _ _ _ _ _ _ => by kernel_rfl
  have kb0 : ∀ w, (Instr.build 35 #[]).run Try.prog w = .ok (.agg #[.int .i64 0, .slice none 0 0, .slice none 0 0]) w := fun _ => by kernel_rfl
  obtain ⟨lf, hlf⟩ : ∃ lf, lf = dLeaf b := ⟨_, rfl⟩
  obtain ⟨L, hL⟩ : ∃ L, L = dL b := ⟨_, rfl⟩
  obtain ⟨P, hP⟩ : ∃ P, P = dP b := ⟨_, rfl⟩
  have HLF := Lib.hid hlf
  have HLD := Lib.hid hL
  have HPD := Lib.hid hP
  have HLE := Lib.hid hl
  have HRR := Lib.hid hr.out
  unfold DecPost dOk
  rw [← hlf, ← hL, ← hP]
  have hcase : (dWhole b = false) ∨ (dWhole b = true ∧ isS lf 36 4 = false) ∨ (dWhole b = true ∧ isS lf 36 4 = true) := by
    rcases dWhole b with _ | _ <;> rcases isS lf 36 4 with _ | _ <;> simp
  clear hlf hL hP
  rcases hcase with hB | ⟨hB, hI⟩ | ⟨hB, hI⟩
  all_goals
    have HB1 := Lib.hid hB
    (try have HI1 := Lib.hid hI)
    rw [hB]
    (try rw [hI])
    clear hB
    (try clear hI)
    go_enter Try.func34, Try.ntmps34
    go_wp2_with (first | go_skip | ((with_reducible apply (wpl_alloc (dst := some 2))); intro zo wzo _ _ _) | ((with_reducible apply wpl_alloc); intro z wz _ _ _) | ((with_reducible apply (wpl_guard (op := .load _ _))); (exact rfl)) | ((with_reducible apply wpl_loadrow); (exact rfl); (exact inferInstance); (exact inferInstance); (first | (with_reducible assumption) | (with_reducible exact H32.size _) | kernel_rfl)) | ((with_reducible apply wpl_loadcellN); (exact rfl); (exact inferInstance); (exact rfl)) | ((with_reducible apply wpl_storerow); (exact rfl); (exact rfl); (exact inferInstance); (exact inferInstance); (first | (with_reducible assumption) | (with_reducible exact H32.size _) | kernel_rfl); (first | (with_reducible assumption) | (with_reducible exact H32.size _) | kernel_rfl); (first | (with_reducible exact u8s_one _) | (with_reducible assumption) | kernel_rfl); intro ws _ _) | ((with_reducible apply wpl_storecell); (exact rfl); (exact rfl); (exact inferInstance); (exact rfl); (first | (with_reducible assumption) | omega | (focus (simp; done)) | (focus (simp; omega; done)) | decide); intro ws _ _))
    have st0 : Step nowhere w wzo := stepN
    refine (NewReader_calls A n c b _ (HRR.out.later st0.chg) HLE.out (by omega)).mono ?_
    rintro e w2 ⟨g, d, rfl, h2, c2, hg, hd⟩
    have st2 : Step nowhere wzo w2 := ⟨c2.out⟩
    have hNB : NewB wzo g := ⟨hg⟩
    have n2 : Nw w w2 := inferInstance
    go_wp2_with fail
    refine (Num_calls g d _ w2 h2.out (by show b.length ≤ _; have := HLE.out; omega)).mono ?_
    rintro e w3 ⟨rfl, h3, c3⟩
    have st3 : Step (only g) w2 w3 := ⟨c3.out⟩
    have n3 : Nw w w3 := inferInstance
    have e3 : (((⟨b, false⟩ : RS).num.1 : Nat) : Int) = lf := by rw [HLF.out]; rfl
    rw [e3]
    go_wp2_with fail
    refine (ktake_calls (n := 36) (s := dS1 b) rfl h3.out (by have := dS1_le b; have := HLE.out; omega) (by decide)).mono ?_
    rintro e w4 ⟨zc, rfl, st4, hzc, hOc, h4⟩
    have n4 : Nw w w4 := inferInstance
    have hgl := h3.out.lt
    have hNc : NewA w (some ⟨zc, 0, none⟩) := ⟨fun ad e => by
      injection e with e
      subst e
      exact Nat.le_trans n3.out.size hzc⟩
    have og : OffA (only g) (some ⟨zc, 0, none⟩) := ⟨fun ad e h => by
      injection e with e
      subst e
      have h' : zc = g := h
      omega⟩
    go_wp2_with fail
    refine (ktake_calls (n := 4) (s := (dS1 b).hAt 36) rfl h4 (by have := dS2_le b; have := HLE.out; omega) (by decide)).mono ?_
    rintro e w5 ⟨zp, rfl, st5, hzp, hOp, h5⟩
    have n5 : Nw w w5 := inferInstance
    have hNp : NewA w (some ⟨zp, 0, none⟩) := ⟨fun ad e => by
      injection e with e
      subst e
      exact Nat.le_trans n4.out.size hzp⟩
    have hOc5 : HO w5 23 32 (some ⟨zc, 0, none⟩) 36 36 (cellsOf L) := by rw [HLD.out]; exact (inferInstance : HO w5 23 32 (some ⟨zc, 0, none⟩) 36 36 (cellsOf ((dS1 b).hs 36)))
    have hOp5 : HO w5 23 32 (some ⟨zp, 0, none⟩) 4 4 (cellsOf P) := by rw [HPD.out]; exact hOp
    have HR5 : Hid (RdrAt w5 g d (dS b)) := Lib.hid h5
    have hzol := (inferInstance : HB wzo zo 35 #[.int .i64 0, .slice none 0 0, .slice none 0 0]).out.lt
    have hz3 : wzo.heap.size ≤ w3.heap.size := Nat.le_trans st2.chg.size st3.chg.size
    have oz1 : OffA (only zo) (some ⟨zc, 0, none⟩) := ⟨fun ad e h => by
      injection e with e
      subst e
      have h' : zc = zo := h
      omega⟩
    have oz2 : OffA (only zo) (some ⟨zp, 0, none⟩) := ⟨fun ad e h => by
      injection e with e
      subst e
      have h' : zp = zo := h
      have := st4.chg.size
      omega⟩
    clear hOc hOp h4 h5 h3 e3 og hzol hz3
    go_wp2_with (first | go_skip | ((with_reducible apply (stop_dst (dst := some 16))); (try simp only [Act.put, List.setIfInBounds_toArray, List.set_cons_succ, List.set_cons_zero]); ((with_reducible apply (wpl_build (dst := some 16))); (exact kbS _ _ _ _ _ _))) | ((with_reducible apply (wpl_alloc (dst := some 5))); intro zs wzs _ _ _) | ((with_reducible apply wpl_alloc); intro z wz _ _ _) | ((with_reducible apply (wpl_guard (op := .load _ _))); (exact rfl)) | ((with_reducible apply wpl_loadrow); (exact rfl); (exact inferInstance); (exact inferInstance); (first | (with_reducible assumption) | (with_reducible exact H32.size _) | kernel_rfl)) | ((with_reducible apply wpl_loadcellN); (exact rfl); (exact inferInstance); (exact rfl)) | ((with_reducible apply wpl_storerow); (exact rfl); (exact rfl); (exact inferInstance); (exact inferInstance); (first | (with_reducible assumption) | (with_reducible exact H32.size _) | kernel_rfl); (first | (with_reducible assumption) | (with_reducible exact H32.size _) | kernel_rfl); (first | (with_reducible exact u8s_one _) | (with_reducible assumption) | kernel_rfl); intro ws _ _) | ((with_reducible apply wpl_storecell); (exact rfl); (exact rfl); (exact inferInstance); (exact rfl); (first | (with_reducible assumption) | omega | (focus (simp; done)) | (focus (simp; omega; done)) | decide); intro ws _ _))
    have stz : Step nowhere w5 ws := stepN
    refine (Whole_calls g d (dS b) ws (HR5.out.chg stz.chg (fun h => h) (fun h => h)) (by have := dS_le b; have := HLE.out; omega)).mono ?_
    rintro e w6 ⟨rfl, hw6⟩
    have st6 : Step nowhere ws w6 := ⟨by rw [hw6]; exact Chg.refl _ _⟩
    have e6 : (!(dS b).e && decide ((dS b).b = [])) = dWhole b := rfl
    rw [e6, HB1.out]
    clear hw6 e6
  · go_wp2_with (first | go_skip | ((with_reducible apply wpl_build); (exact kb0 _)) | ((with_reducible apply wpl_alloc); intro z wz _ _ _) | ((with_reducible apply (wpl_guard (op := .load _ _))); (exact rfl)) | ((with_reducible apply wpl_loadrow); (exact rfl); (exact inferInstance); (exact inferInstance); (first | (with_reducible assumption) | (with_reducible exact H32.size _) | kernel_rfl)) | ((with_reducible apply wpl_loadcellN); (exact rfl); (exact inferInstance); (exact rfl)) | ((with_reducible apply wpl_storerow); (exact rfl); (exact rfl); (exact inferInstance); (exact inferInstance); (first | (with_reducible assumption) | (with_reducible exact H32.size _) | kernel_rfl); (first | (with_reducible assumption) | (with_reducible exact H32.size _) | kernel_rfl); (first | (with_reducible exact u8s_one _) | (with_reducible assumption) | kernel_rfl); intro ws _ _) | ((with_reducible apply wpl_storecell); (exact rfl); (exact rfl); (exact inferInstance); (exact rfl); (first | (with_reducible assumption) | omega | (focus (simp; done)) | (focus (simp; omega; done)) | decide); intro ws _ _))
    refine ret_row_ rfl rfl rfl (n := 3) rfl rfl ?_
    exact ⟨stepN, rfl⟩
  · go_wp2_with (first | go_skip | ((with_reducible apply wpl_alloc); intro z wz _ _ _) | ((with_reducible apply (wpl_guard (op := .load _ _))); (exact rfl)) | ((with_reducible apply wpl_loadrow); (exact rfl); (exact inferInstance); (exact inferInstance); (first | (with_reducible assumption) | (with_reducible exact H32.size _) | kernel_rfl)) | ((with_reducible apply wpl_loadcellN); (exact rfl); (exact inferInstance); (exact rfl)) | ((with_reducible apply wpl_storerow); (exact rfl); (exact rfl); (exact inferInstance); (exact inferInstance); (first | (with_reducible assumption) | (with_reducible exact H32.size _) | kernel_rfl); (first | (with_reducible assumption) | (with_reducible exact H32.size _) | kernel_rfl); (first | (with_reducible exact u8s_one _) | (with_reducible assumption) | kernel_rfl); intro ws _ _) | ((with_reducible apply wpl_storecell); (exact rfl); (exact rfl); (exact inferInstance); (exact rfl); (first | (with_reducible assumption) | omega | (focus (simp; done)) | (focus (simp; omega; done)) | decide); intro ws _ _))
    refine (is_calls _).mono ?_
    rw [HI1.out]
    rintro e w7 ⟨rfl, _⟩
    go_wp2_with (first | go_skip | ((with_reducible apply wpl_build); (exact kb0 _)) | ((with_reducible apply wpl_alloc); intro z wz _ _ _) | ((with_reducible apply (wpl_guard (op := .load _ _))); (exact rfl)) | ((with_reducible apply wpl_loadrow); (exact rfl); (exact inferInstance); (exact inferInstance); (first | (with_reducible assumption) | (with_reducible exact H32.size _) | kernel_rfl)) | ((with_reducible apply wpl_loadcellN); (exact rfl); (exact inferInstance); (exact rfl)) | ((with_reducible apply wpl_storerow); (exact rfl); (exact rfl); (exact inferInstance); (exact inferInstance); (first | (with_reducible assumption) | (with_reducible exact H32.size _) | kernel_rfl); (first | (with_reducible assumption) | (with_reducible exact H32.size _) | kernel_rfl); (first | (with_reducible exact u8s_one _) | (with_reducible assumption) | kernel_rfl); intro ws _ _) | ((with_reducible apply wpl_storecell); (exact rfl); (exact rfl); (exact inferInstance); (exact rfl); (first | (with_reducible assumption) | omega | (focus (simp; done)) | (focus (simp; omega; done)) | decide); intro ws _ _))
    refine ret_row_ rfl rfl rfl (n := 3) rfl rfl ?_
    exact ⟨stepN, rfl⟩
  · go_wp2_with (first | go_skip | ((with_reducible apply wpl_alloc); intro z wz _ _ _) | ((with_reducible apply (wpl_guard (op := .load _ _))); (exact rfl)) | ((with_reducible apply wpl_loadrow); (exact rfl); (exact inferInstance); (exact inferInstance); (first | (with_reducible assumption) | (with_reducible exact H32.size _) | kernel_rfl)) | ((with_reducible apply wpl_loadcellN); (exact rfl); (exact inferInstance); (exact rfl)) | ((with_reducible apply wpl_storerow); (exact rfl); (exact rfl); (exact inferInstance); (exact inferInstance); (first | (with_reducible assumption) | (with_reducible exact H32.size _) | kernel_rfl); (first | (with_reducible assumption) | (with_reducible exact H32.size _) | kernel_rfl); (first | (with_reducible exact u8s_one _) | (with_reducible assumption) | kernel_rfl); intro ws _ _) | ((with_reducible apply wpl_storecell); (exact rfl); (exact rfl); (exact inferInstance); (exact rfl); (first | (with_reducible assumption) | omega | (focus (simp; done)) | (focus (simp; omega; done)) | decide); intro ws _ _))
    refine (is_calls _).mono ?_
    rw [HI1.out]
    rintro e w7 ⟨rfl, _⟩
    go_wp2_with (first | go_skip | ((with_reducible apply wpl_alloc); intro z wz _ _ _) | ((with_reducible apply (wpl_guard (op := .load _ _))); (exact rfl)) | ((with_reducible apply wpl_loadrow); (exact rfl); (exact inferInstance); (exact inferInstance); (first | (with_reducible assumption) | (with_reducible exact H32.size _) | kernel_rfl)) | ((with_reducible apply wpl_loadcellN); (exact rfl); (exact inferInstance); (exact rfl)) | ((with_reducible apply wpl_storerow); (exact rfl); (exact rfl); (exact inferInstance); (exact inferInstance); (first | (with_reducible assumption) | (with_reducible exact H32.size _) | kernel_rfl); (first | (with_reducible assumption) | (with_reducible exact H32.size _) | kernel_rfl); (first | (with_reducible exact u8s_one _) | (with_reducible assumption) | kernel_rfl); intro ws _ _) | ((with_reducible apply wpl_storecell); (exact rfl); (exact rfl); (exact inferInstance); (exact rfl); (first | (with_reducible assumption) | omega | (focus (simp; done)) | (focus (simp; omega; done)) | decide); intro ws _ _))
    refine ret_row_ rfl rfl rfl (n := 3) rfl rfl ?_
    exact ⟨stepN, _, _, _, _, rfl, inferInstance, inferInstance, hNc, hNp⟩
end Go.Proofs.Ytmijlojjkgeplaa
