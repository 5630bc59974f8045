/- KyP, EnM -/
import Derived.Test.YthcleccofccbdaaTrKyN
import Derived.Test.YthcleccofccbdaaTrKyB
import Derived.Test.YthcleccofccbdaaTrWzB
import Derived.Test.YthcleccofccbdaaTrRoH
import Derived.Test.YthcleccofccbdaaTrRdD
section
open Go Go.RowKit
namespace Go.Proofs.Ythcleccofccbdaa
def dS1 (b : List UInt8) : RS := (⟨b, false⟩ : RS).num.2
def dLeaf (b : List UInt8) : Nat := (⟨b, false⟩ : RS).num.1
def dL (b : List UInt8) : List H32 := (dS1 b).hs 36
def dP (b : List UInt8) : List H32 := ((dS1 b).hAt 36).hs 4
def dS (b : List UInt8) : RS := ((dS1 b).hAt 36).hAt 4
def dWhole (b : List UInt8) : Bool := !(dS b).e && decide ((dS b).b = [])
def dOk (b : List UInt8) : Bool := dWhole b && isS (dLeaf b) 36 4
theorem dS1_le (b : List UInt8) : (dS1 b).b.length ≤ b.length := RS.num_le ⟨b, false⟩
theorem dS2_le (b : List UInt8) : ((dS1 b).hAt 36).b.length ≤ b.length := Nat.le_trans (RS.hAt_le _ _) (dS1_le b)
theorem dS_le (b : List UInt8) : (dS b).b.length ≤ b.length := Nat.le_trans (RS.hAt_le _ _) (dS2_le b)
/-- what Decode answers -/
def KDecPost (b : List UInt8) (w : World) : Ending → World → Prop := fun e w' => Step nowhere w w' ∧
  if dOk b then ∃ A B c d, e = .returned (.tuple #[.agg #[.int .i64 (dLeaf b), .slice A 36 c, .slice B 4 d], .int .i64 0]) ∧ HO w' 78 32 A 36 c (cellsOf (dL b)) ∧ HO w' 78 32 B 4 d (cellsOf (dP b)) ∧ NewA w A ∧ NewA w B
  else e = .returned (.tuple #[.agg #[.int .i64 0, .slice none 0 0, .slice none 0 0], .int .i64 2])
set_option maxRecDepth 100000 in
set_option maxHeartbeats 1600000 in
theorem kdecode_calls {A : Option Addr} {n c : Nat} {b : List UInt8} {w : World} [hr : HR w A (bs b)] (hl : b.length = n) (hn : n ≤ 1000000000) :
    Calls Try.prog 185 #[.slice A n c] w (KDecPost b w) := by
  have kbS : ∀ (u : Int) (zc zp : Nat) (c d : Nat) w, (Instr.build 123 #[(0, .int .i64 u), (1, .slice (some ⟨zc, 0, none⟩) 36 c), (2, .slice (some ⟨zp, 0, none⟩) 4 d)]).run Try.prog w = .ok (.agg #[.int .i64 u, .slice (some ⟨zc, 0, none⟩) 36 c, .slice (some ⟨zp, 0, none⟩) 4 d]) w := fun _ _ _ _ _ _ => by kernel_rfl
  have kb0 : ∀ w, (Instr.build 123 #[]).run Try.prog w = .ok (.agg #[.int .i64 0, .slice none 0 0, .slice none 0 0]) w := fun _ => by kernel_rfl
  obtain ⟨lf, hlf⟩ : ∃ lf, lf = dLeaf b := ⟨_, rfl⟩
  obtain ⟨L, hL⟩ : ∃ L, L = dL b := ⟨_, rfl⟩
  obtain ⟨P, hP⟩ : ∃ P, P = dP b := ⟨_, rfl⟩
  have HLF := Lib.hid hlf
  have HLD := Lib.hid hL
  have HPD := Lib.hid hP
  have HLE := Lib.hid hl
  have HRR := Lib.hid hr.out
  unfold KDecPost dOk
  rw [← hlf, ← hL, ← hP]
  have hcase : (dWhole b = false) ∨ (dWhole b = true ∧ isS lf 36 4 = false) ∨ (dWhole b = true ∧ isS lf 36 4 = true) := by
    rcases dWhole b with _ | _ <;> rcases isS lf 36 4 with _ | _ <;> simp
  clear hlf hL hP
  rcases hcase with hB | ⟨hB, hI⟩ | ⟨hB, hI⟩
  all_goals
    have HB1 := Lib.hid hB
    (try have HI1 := Lib.hid hI)
    rw [hB]
    (try rw [hI])
    clear hB
    (try clear hI)
    go_enter Try.func185, Try.ntmps185
    go_wp2_with (first | go_skip | ((with_reducible apply (wpl_alloc (dst := some 2))); intro zo wzo _ _ _) | ((with_reducible apply wpl_alloc); intro z wz _ _ _) | ((with_reducible apply (wpl_guard (op := .load _ _))); (exact rfl)) | ((with_reducible apply wpl_loadrow); (exact rfl); infer_instance; infer_instance; (first | (with_reducible assumption) | (with_reducible exact H32.size _) | kernel_rfl)) | ((with_reducible apply wpl_loadcellN); (exact rfl); infer_instance; (exact rfl)) | ((with_reducible apply wpl_storerow); (exact rfl); (exact rfl); infer_instance; infer_instance; (first | (with_reducible assumption) | (with_reducible exact H32.size _) | kernel_rfl); (first | (with_reducible assumption) | (with_reducible exact H32.size _) | kernel_rfl); (first | (with_reducible exact u8s_one _) | (with_reducible assumption) | kernel_rfl); intro ws _ _) | ((with_reducible apply wpl_storecell); (exact rfl); (exact rfl); infer_instance; (exact rfl); (first | (with_reducible assumption) | omega | (focus (simp; done)) | (focus (simp; omega; done)) | decide); intro ws _ _))
    have st0 : Step nowhere w wzo := stepN
    refine (NewReader_calls A n c b _ (HRR.out.later st0.chg) HLE.out (by omega)).mono ?_
    rintro e w2 ⟨g, d, rfl, h2, c2, hg, hd⟩
    have st2 : Step nowhere wzo w2 := ⟨c2.out⟩
    have hNB : NewB wzo g := ⟨hg⟩
    have n2 : Nw w w2 := inferInstance
    go_wp2_with fail
    refine (Num_calls g d _ w2 h2.out (by show b.length ≤ _; have := HLE.out; omega)).mono ?_
    rintro e w3 ⟨rfl, h3, c3⟩
    have st3 : Step (only g) w2 w3 := ⟨c3.out⟩
    have n3 : Nw w w3 := inferInstance
    have e3 : (((⟨b, false⟩ : RS).num.1 : Nat) : Int) = lf := by rw [HLF.out]; rfl
    rw [e3]
    go_wp2_with fail
    refine (ktake_calls (n := 36) (s := dS1 b) rfl h3.out (by have := dS1_le b; have := HLE.out; omega) (by decide)).mono ?_
    rintro e w4 ⟨zc, rfl, st4, hzc, hOc, h4⟩
    have n4 : Nw w w4 := inferInstance
    have hgl := h3.out.lt
    have hNc : NewA w (some ⟨zc, 0, none⟩) := ⟨fun ad e => by
      injection e with e
      subst e
      exact Nat.le_trans n3.out.size hzc⟩
    have og : OffA (only g) (some ⟨zc, 0, none⟩) := ⟨fun ad e h => by
      injection e with e
      subst e
      have h' : zc = g := h
      omega⟩
    go_wp2_with fail
    refine (ktake_calls (n := 4) (s := (dS1 b).hAt 36) rfl h4 (by have := dS2_le b; have := HLE.out; omega) (by decide)).mono ?_
    rintro e w5 ⟨zp, rfl, st5, hzp, hOp, h5⟩
    have n5 : Nw w w5 := inferInstance
    have hNp : NewA w (some ⟨zp, 0, none⟩) := ⟨fun ad e => by
      injection e with e
      subst e
      exact Nat.le_trans n4.out.size hzp⟩
    have hOc5 : HO w5 78 32 (some ⟨zc, 0, none⟩) 36 36 (cellsOf L) := by rw [HLD.out]; exact (inferInstance : HO w5 78 32 (some ⟨zc, 0, none⟩) 36 36 (cellsOf ((dS1 b).hs 36)))
    have hOp5 : HO w5 78 32 (some ⟨zp, 0, none⟩) 4 4 (cellsOf P) := by rw [HPD.out]; exact hOp
    have HR5 : Hid (RdrAt w5 g d (dS b)) := Lib.hid h5
    have hzol := (inferInstance : HB wzo zo 123 #[.int .i64 0, .slice none 0 0, .slice none 0 0]).out.lt
    have hz3 : wzo.heap.size ≤ w3.heap.size := Nat.le_trans st2.chg.size st3.chg.size
    have oz1 : OffA (only zo) (some ⟨zc, 0, none⟩) := ⟨fun ad e h => by
      injection e with e
      subst e
      have h' : zc = zo := h
      omega⟩
    have oz2 : OffA (only zo) (some ⟨zp, 0, none⟩) := ⟨fun ad e h => by
      injection e with e
      subst e
      have h' : zp = zo := h
      have := st4.chg.size
      omega⟩
    clear hOc hOp h4 h5 h3 e3 og hzol hz3
    go_wp2_with (first | go_skip | ((with_reducible apply (stop_dst (dst := some 16))); (try simp only [Act.put, sA, sB, sC]); ((with_reducible apply (wpl_build (dst := some 16))); (exact kbS _ _ _ _ _ _))) | ((with_reducible apply (wpl_alloc (dst := some 5))); intro zs wzs _ _ _) | ((with_reducible apply wpl_alloc); intro z wz _ _ _) | ((with_reducible apply (wpl_guard (op := .load _ _))); (exact rfl)) | ((with_reducible apply wpl_loadrow); (exact rfl); infer_instance; infer_instance; (first | (with_reducible assumption) | (with_reducible exact H32.size _) | kernel_rfl)) | ((with_reducible apply wpl_loadcellN); (exact rfl); infer_instance; (exact rfl)) | ((with_reducible apply wpl_storerow); (exact rfl); (exact rfl); infer_instance; infer_instance; (first | (with_reducible assumption) | (with_reducible exact H32.size _) | kernel_rfl); (first | (with_reducible assumption) | (with_reducible exact H32.size _) | kernel_rfl); (first | (with_reducible exact u8s_one _) | (with_reducible assumption) | kernel_rfl); intro ws _ _) | ((with_reducible apply wpl_storecell); (exact rfl); (exact rfl); infer_instance; (exact rfl); (first | (with_reducible assumption) | omega | (focus (simp; done)) | (focus (simp; omega; done)) | decide); intro ws _ _))
    have stz : Step nowhere w5 ws := stepN
    refine (Whole_calls g d (dS b) ws (HR5.out.chg stz.chg (fun h => h) (fun h => h)) (by have := dS_le b; have := HLE.out; omega)).mono ?_
    rintro e w6 ⟨rfl, hw6⟩
    have st6 : Step nowhere ws w6 := ⟨by rw [hw6]; exact Chg.refl _ _⟩
    have e6 : (!(dS b).e && decide ((dS b).b = [])) = dWhole b := rfl
    rw [e6, HB1.out]
    clear hw6 e6
  · go_wp2_with (first | go_skip | ((with_reducible apply wpl_build); (exact kb0 _)) | ((with_reducible apply wpl_alloc); intro z wz _ _ _) | ((with_reducible apply (wpl_guard (op := .load _ _))); (exact rfl)) | ((with_reducible apply wpl_loadrow); (exact rfl); infer_instance; infer_instance; (first | (with_reducible assumption) | (with_reducible exact H32.size _) | kernel_rfl)) | ((with_reducible apply wpl_loadcellN); (exact rfl); infer_instance; (exact rfl)) | ((with_reducible apply wpl_storerow); (exact rfl); (exact rfl); infer_instance; infer_instance; (first | (with_reducible assumption) | (with_reducible exact H32.size _) | kernel_rfl); (first | (with_reducible assumption) | (with_reducible exact H32.size _) | kernel_rfl); (first | (with_reducible exact u8s_one _) | (with_reducible assumption) | kernel_rfl); intro ws _ _) | ((with_reducible apply wpl_storecell); (exact rfl); (exact rfl); infer_instance; (exact rfl); (first | (with_reducible assumption) | omega | (focus (simp; done)) | (focus (simp; omega; done)) | decide); intro ws _ _))
    refine ret_row_ rfl rfl rfl (n := 3) rfl rfl ?_
    exact ⟨stepN, rfl⟩
  · go_wp2_with (first | go_skip | ((with_reducible apply wpl_alloc); intro z wz _ _ _) | ((with_reducible apply (wpl_guard (op := .load _ _))); (exact rfl)) | ((with_reducible apply wpl_loadrow); (exact rfl); infer_instance; infer_instance; (first | (with_reducible assumption) | (with_reducible exact H32.size _) | kernel_rfl)) | ((with_reducible apply wpl_loadcellN); (exact rfl); infer_instance; (exact rfl)) | ((with_reducible apply wpl_storerow); (exact rfl); (exact rfl); infer_instance; infer_instance; (first | (with_reducible assumption) | (with_reducible exact H32.size _) | kernel_rfl); (first | (with_reducible assumption) | (with_reducible exact H32.size _) | kernel_rfl); (first | (with_reducible exact u8s_one _) | (with_reducible assumption) | kernel_rfl); intro ws _ _) | ((with_reducible apply wpl_storecell); (exact rfl); (exact rfl); infer_instance; (exact rfl); (first | (with_reducible assumption) | omega | (focus (simp; done)) | (focus (simp; omega; done)) | decide); intro ws _ _))
    refine (is_calls _).mono ?_
    rw [HI1.out]
    rintro e w7 ⟨rfl, _⟩
    go_wp2_with (first | go_skip | ((with_reducible apply wpl_build); (exact kb0 _)) | ((with_reducible apply wpl_alloc); intro z wz _ _ _) | ((with_reducible apply (wpl_guard (op := .load _ _))); (exact rfl)) | ((with_reducible apply wpl_loadrow); (exact rfl); infer_instance; infer_instance; (first | (with_reducible assumption) | (with_reducible exact H32.size _) | kernel_rfl)) | ((with_reducible apply wpl_loadcellN); (exact rfl); infer_instance; (exact rfl)) | ((with_reducible apply wpl_storerow); (exact rfl); (exact rfl); infer_instance; infer_instance; (first | (with_reducible assumption) | (with_reducible exact H32.size _) | kernel_rfl); (first | (with_reducible assumption) | (with_reducible exact H32.size _) | kernel_rfl); (first | (with_reducible exact u8s_one _) | (with_reducible assumption) | kernel_rfl); intro ws _ _) | ((with_reducible apply wpl_storecell); (exact rfl); (exact rfl); infer_instance; (exact rfl); (first | (with_reducible assumption) | omega | (focus (simp; done)) | (focus (simp; omega; done)) | decide); intro ws _ _))
    refine ret_row_ rfl rfl rfl (n := 3) rfl rfl ?_
    exact ⟨stepN, rfl⟩
  · go_wp2_with (first | go_skip | ((with_reducible apply wpl_alloc); intro z wz _ _ _) | ((with_reducible apply (wpl_guard (op := .load _ _))); (exact rfl)) | ((with_reducible apply wpl_loadrow); (exact rfl); infer_instance; infer_instance; (first | (with_reducible assumption) | (with_reducible exact H32.size _) | kernel_rfl)) | ((with_reducible apply wpl_loadcellN); (exact rfl); infer_instance; (exact rfl)) | ((with_reducible apply wpl_storerow); (exact rfl); (exact rfl); infer_instance; infer_instance; (first | (with_reducible assumption) | (with_reducible exact H32.size _) | kernel_rfl); (first | (with_reducible assumption) | (with_reducible exact H32.size _) | kernel_rfl); (first | (with_reducible exact u8s_one _) | (with_reducible assumption) | kernel_rfl); intro ws _ _) | ((with_reducible apply wpl_storecell); (exact rfl); (exact rfl); infer_instance; (exact rfl); (first | (with_reducible assumption) | omega | (focus (simp; done)) | (focus (simp; omega; done)) | decide); intro ws _ _))
    refine (is_calls _).mono ?_
    rw [HI1.out]
    rintro e w7 ⟨rfl, _⟩
    go_wp2_with (first | go_skip | ((with_reducible apply wpl_alloc); intro z wz _ _ _) | ((with_reducible apply (wpl_guard (op := .load _ _))); (exact rfl)) | ((with_reducible apply wpl_loadrow); (exact rfl); infer_instance; infer_instance; (first | (with_reducible assumption) | (with_reducible exact H32.size _) | kernel_rfl)) | ((with_reducible apply wpl_loadcellN); (exact rfl); infer_instance; (exact rfl)) | ((with_reducible apply wpl_storerow); (exact rfl); (exact rfl); infer_instance; infer_instance; (first | (with_reducible assumption) | (with_reducible exact H32.size _) | kernel_rfl); (first | (with_reducible assumption) | (with_reducible exact H32.size _) | kernel_rfl); (first | (with_reducible exact u8s_one _) | (with_reducible assumption) | kernel_rfl); intro ws _ _) | ((with_reducible apply wpl_storecell); (exact rfl); (exact rfl); infer_instance; (exact rfl); (first | (with_reducible assumption) | omega | (focus (simp; done)) | (focus (simp; omega; done)) | decide); intro ws _ _))
    refine ret_row_ rfl rfl rfl (n := 3) rfl rfl ?_
    exact ⟨stepN, _, _, _, _, rfl, inferInstance, inferInstance, hNc, hNp⟩
end Go.Proofs.Ythcleccofccbdaa
end
section
open Go Go.RowKit
namespace Go.Proofs.Ythcleccofccbdaa
abbrev MkM := H32 × Int × List H32 × List H32
def MarkR.m (r : MarkR) : MkM := (r.key, r.leaf, r.l, r.p)
def mkOkM (x : MkM) : Bool := isS x.2.1 x.2.2.1.length x.2.2.2.length
def mkME (x : MkM) : List UInt8 := x.1.l ++ encRow (sigB x.2.1 x.2.2.1 x.2.2.2)
def mkS1 (s : RS) : RS := (s.raw 32).2
def mkBy (s : RS) : List UInt8 := (mkS1 s).row.1
/-- the program's way to take one -/
def mkTk (s : RS) : MkM × RS := if dOk (mkBy s) then ((s.hsh, (dLeaf (mkBy s) : Int), dL (mkBy s), dP (mkBy s)), (mkS1 s).row.2) else ((s.hsh, 0, [], []), RS.bad)
/-- the reference's -/
def rmTk (s : RS) : MkM × RS := (if dOk (mkBy s) then (s.hsh, (dLeaf (mkBy s) : Int), dL (mkBy s), dP (mkBy s)) else (s.hsh, 0, [], []), (mkS1 s).row.2)
theorem hs_back (s : RS) : ∀ k, (s.hAt k).e = false → s.e = false ∧ s.b = kflatH (s.hs k) ++ (s.hAt k).b
  | 0, h => ⟨h, rfl⟩
  | k + 1, h => by
    obtain ⟨h1, h2⟩ := hsh_back (s := s.hAt k) h
    obtain ⟨h3, h4⟩ := hs_back s k h1
    refine ⟨h3, ?_⟩
    rw [RS.hs, kflatH_app, List.append_assoc]
    show s.b = _ ++ (((s.hAt k).hsh.l ++ []) ++ ((s.hAt k).raw 32).2.b)
    rw [List.append_nil, ← h2]
    exact h4
theorem d_back (s : RS) (n m : Nat) (he : ((s.hAt n).hAt m).e = false) (hb : ((s.hAt n).hAt m).b = []) : s.e = false ∧ s.b = kflatH (s.hs n) ++ kflatH ((s.hAt n).hs m) := by
  obtain ⟨a1, a2⟩ := hs_back (s.hAt n) m he
  obtain ⟨b1, b2⟩ := hs_back s n a1
  rw [hb, List.append_nil] at a2
  rw [a2] at b2
  exact ⟨b1, b2⟩
theorem dOk_back {b : List UInt8} (h : dOk b = true) : b = sigB (dLeaf b) (dL b) (dP b) := by
  unfold dOk at h
  rw [Bool.and_eq_true] at h
  have h1 := h.1
  unfold dWhole dS at h1
  rw [Bool.and_eq_true, decide_eq_true_eq, Bool.not_eq_true'] at h1
  unfold sigB dL dP
  generalize 36 = n at h1 ⊢
  generalize 4 = m at h1 ⊢
  obtain ⟨b1, b2⟩ := d_back (dS1 b) n m h1.1 h1.2
  have h3 : (⟨b, false⟩ : RS).num.2.e = false := b1
  obtain ⟨_, c2, c3⟩ := num_back h3
  rw [show encAll [(dLeaf b : Int)] = enc (dLeaf b) from encN c3, List.append_assoc, ← b2]
  exact c2
theorem mkS1_le (s : RS) : (mkS1 s).b.length ≤ s.b.length := s.raw_l 32
theorem rmTk_le (s : RS) : (rmTk s).2.b.length ≤ s.b.length := by
  show (mkS1 s).row.2.b.length ≤ _
  exact Nat.le_trans (Nat.le_trans (RS.raw_l _ _) (RS.num_le _)) (mkS1_le s)
theorem mkBy_le (s : RS) : (mkBy s).length ≤ s.b.length := by
  have h : (mkBy s).length ≤ (mkS1 s).b.length := by
    unfold mkBy RS.row RS.raw
    split
    · exact Nat.zero_le _
    · show ((mkS1 s).num.2.b.take _).length ≤ _
      rw [List.length_take]
      have := RS.num_le (mkS1 s)
      omega
  exact Nat.le_trans h (mkS1_le s)
theorem mkTakes : Takes mkTk mkME := ⟨fun s => by
  unfold mkTk
  split
  · exact rmTk_le s
  · exact Nat.zero_le _, fun s h => by
  unfold mkTk at *
  by_cases hd : dOk (mkBy s) = true
  · rw [if_pos hd] at h ⊢
    obtain ⟨a1, a2⟩ := row_back (s := mkS1 s) h
    obtain ⟨b1, b2⟩ := hsh_back (s := s) a1
    refine ⟨b1, ?_⟩
    show s.b = (s.hsh.l ++ encRow (sigB (dLeaf (mkBy s)) (dL (mkBy s)) (dP (mkBy s)))) ++ (mkS1 s).row.2.b
    rw [← dOk_back hd, List.append_assoc]
    show s.b = s.hsh.l ++ (encRow (mkS1 s).row.1 ++ (mkS1 s).row.2.b)
    rw [← a2]
    exact b2
  · rw [if_neg hd] at h
    cases h⟩
/-- one of the first k was no signature -/
def bdN (S : RS) : Nat → Bool
  | 0 => false
  | k + 1 => bdN S k || !dOk (mkBy (tkS rmTk S k))
theorem mk_same {s : RS} (h : dOk (mkBy s) = true) : mkTk s = rmTk s := by
  rw [mkTk, rmTk, if_pos h, if_pos h]
theorem mk_no {s : RS} (h : (mkTk s).2.e = false) : dOk (mkBy s) = true := by
  cases hd : dOk (mkBy s)
  · rw [mkTk, if_neg (by rw [hd]; decide)] at h
    cases h
  · rfl
theorem tk_same (S : RS) (k : Nat) (h : bdN S k = false) : tkS mkTk S k = tkS rmTk S k ∧ tkL mkTk S k = tkL rmTk S k := by
  induction k with
  | zero => exact ⟨by rw [tkS, tkS], by rw [tkL, tkL]⟩
  | succ k ih =>
    rw [bdN, Bool.or_eq_false_iff, Bool.not_eq_false'] at h
    obtain ⟨h1, h2⟩ := ih h.1
    rw [tkS, tkS, tkL, tkL, h1, h2, mk_same h.2]
    exact ⟨rfl, rfl⟩
theorem tk_good (S : RS) (k : Nat) (h : (tkS mkTk S k).e = false) : bdN S k = false := by
  induction k with
  | zero => rw [bdN]
  | succ k ih =>
    rw [tkS] at h
    have h1 := (mkTakes.back (tkS mkTk S k) h).1
    have h2 := ih h1
    have h3 := mk_no h
    rw [(tk_same S k h2).1] at h3
    rw [bdN, h2, h3]
    rfl
/-- what the reference has taken -/
def GotE (s : RS) (l : List MkM) (s' : RS) (bad : Bool) : Prop := ∃ j, j ≤ 5 ∧ j ≤ s.num.1 ∧ (j = s.num.1 ∨ j = 5 ∨ (tkS rmTk s.num.2 j).e = true) ∧ l = tkL rmTk s.num.2 j ∧ s' = tkS rmTk s.num.2 j ∧ bad = bdN s.num.2 j
theorem GotE.got {s s' : RS} {l : List MkM} (h : GotE s l s' false) : GotL mkTk 4 s l s' := by
  obtain ⟨j, h5, hn, hj, rfl, rfl, hb⟩ := h
  obtain ⟨e1, e2⟩ := tk_same s.num.2 j hb.symm
  refine ⟨j, h5, hn, ?_, e2.symm, e1.symm⟩
  rw [e1]
  exact hj
theorem GotE.fine {s s' : RS} {l : List MkM} {bad : Bool} (h : GotE s l s' bad) (he : (lstS mkTk 4 s).e = false) : bad = false := by
  obtain ⟨j, h5, hn, hj, rfl, rfl, hb⟩ := h
  have h4 : ¬ 4 < s.num.1 := fun h4 => by
    rw [lstS, if_pos h4] at he
    cases he
  rw [lstS, if_neg h4] at he
  rw [hb]
  exact tk_good _ _ (mkTakes.tkS_mono _ _ _ he hn)
/-- an envelope's bytes -/
def envOk (m : List UInt8) (P : List MkM) : Bool := decide (m.length ≤ 8192) && decide (P.length ≤ 4) && P.all mkOkM
def marksE (P : List MkM) : List UInt8 := P.flatMap mkME
def envE (m : List UInt8) (P : List MkM) : List UInt8 := encAll [6] ++ (encRow m ++ (encAll [(P.length : Int)] ++ marksE P))
def evM (b : List UInt8) : List UInt8 := (kindS 6 b).row.1
def evS (b : List UInt8) : RS := (kindS 6 b).row.2
def evP (b : List UInt8) : List MkM := lstL mkTk 4 (evS b)
def evR (b : List UInt8) : RS := lstS mkTk 4 (evS b)
def evOk (b : List UInt8) : Bool := wholeB (evR b) && envOk (evM b) (evP b)
theorem ev_back {b : List UInt8} (h : evOk b = true) : b = envE (evM b) (evP b) := by
  unfold evOk at h
  rw [Bool.and_eq_true] at h
  obtain ⟨h1, h2⟩ := whole_back h.1
  obtain ⟨a1, a2, _⟩ := mkTakes.lst_back (s := evS b) h1
  have h3 : (lstS mkTk 4 (evS b)).b = [] := h2
  rw [h3, List.append_nil] at a2
  have hp : evP b = lstL mkTk 4 (evS b) := rfl
  rw [← hp] at a2
  obtain ⟨c1, c2⟩ := row_back (s := kindS 6 b) a1
  have hb := kind_back (k := 6) (b := b) c1
  rw [envE, show encAll [6] = enc 6 from encN (n := 6) (by decide)]
  refine hb.trans ?_
  congr 1
  refine c2.trans ?_
  show encRow (evM b) ++ (evS b).b = _
  congr 1
theorem ev_ref {b : List UInt8} {P : List MkM} {s' : RS} {bad : Bool} (h : GotE (evS b) P s' bad) : (!bad && (wholeB s' && envOk (evM b) P && decide (b = envE (evM b) P))) = evOk b ∧ (evOk b = true → P = evP b) := by
  by_cases hk : evOk b = true
  · have h0 := hk
    unfold evOk at h0
    rw [Bool.and_eq_true] at h0
    have hf := h.fine (whole_back h0.1).1
    subst hf
    obtain ⟨rfl, rfl⟩ := h.got.prog mkTakes (whole_back h0.1).1
    refine ⟨?_, fun _ => rfl⟩
    have e1 : (wholeB (lstS mkTk 4 (evS b)) && envOk (evM b) (lstL mkTk 4 (evS b))) = true := by rw [Bool.and_eq_true]; exact h0
    rw [e1, hk]
    exact decide_eq_true (ev_back hk)
  · refine ⟨?_, fun h => absurd h hk⟩
    rw [Bool.not_eq_true] at hk
    rw [hk, ← Bool.not_eq_true]
    intro h1
    rw [Bool.and_eq_true, Bool.and_eq_true, Bool.and_eq_true, Bool.not_eq_true'] at h1
    obtain ⟨hb, ⟨h2, h3⟩, h4⟩ := h1
    subst hb
    have hlen : P.length ≤ 4 := by
      have h5 := h3
      unfold envOk at h5
      simp only [Bool.and_eq_true, decide_eq_true_eq] at h5
      exact h5.1.2
    obtain ⟨rfl, rfl⟩ := h.got.same (whole_back h2).1 hlen
    unfold evOk at hk
    have e1 : (wholeB (evR b) && envOk (evM b) (evP b)) = true := by rw [Bool.and_eq_true]; exact ⟨h2, h3⟩
    rw [e1] at hk
    cases hk
end Go.Proofs.Ythcleccofccbdaa
end
