/- MkH, MkA, MkB, MkC, MkU, KyA, KyB -/
import Derived.Test.YthcleccofccbdaaGreatTbBase
import Derived.Test.YthcleccofccbdaaGreatShelf
import Derived.Test.YthcleccofccbdaaGreatTbOcRfC
import Derived.Test.YthcleccofccbdaaGreatTbOtP
section
open Go Go.RowKit
namespace Go.Proofs.YthcleccofccbdaaGreat
def halfN (n : Nat) : Nat := 2 ^ Nat.log2 (n - 1)
end Go.Proofs.YthcleccofccbdaaGreat
end
section
open Go Go.RowKit
namespace Go.Proofs.YthcleccofccbdaaGreat
def nodeH (a b : H32) : H32 := ⟨nodeOf a.l b.l, nodeOf_len a.l b.l⟩
def rootF : Nat → List H32 → H32
  | 0, _ => zeroH
  | _ + 1, [] => zeroH
  | _ + 1, [a] => a
  | f + 1, a :: b :: l => nodeH (rootF f ((a :: b :: l).take (halfN (l.length + 2)))) (rootF f ((a :: b :: l).drop (halfN (l.length + 2))))
def rootL (l : List H32) : H32 := rootF l.length l
/-- the way up -/
def pathF : Nat → List H32 → Nat → List H32
  | 0, _, _ => []
  | f + 1, l, i => if l.length < 2 then [] else
      if i < halfN l.length then pathF f (l.take (halfN l.length)) i ++ [rootL (l.drop (halfN l.length))]
      else pathF f (l.drop (halfN l.length)) (i - halfN l.length) ++ [rootL (l.take (halfN l.length))]
def pathL (l : List H32) (i : Nat) : List H32 := pathF l.length l i
/-- up the way -/
def upL : H32 → Nat → List H32 → H32
  | h, _, [] => h
  | h, i, o :: l => upL (if i % 2 = 0 then nodeH h o else nodeH o h) (i / 2) l
theorem nodeC (a b : H32) (w : World) : Calls Tryz.prog 219 #[.agg (u8s a.l), .agg (u8s b.l)] w fun e w' => e = .returned (.agg (u8s (nodeH a b).l)) ∧ Step nowhere w w' :=
  (node_calls a.l b.l w a.len b.len).mono fun _ _ ⟨h1, h2⟩ => ⟨h1, ⟨h2.out⟩⟩
theorem rnodeC (a b : H32) (w : World) : Calls Tryz.prog 212 #[.agg (u8s a.l), .agg (u8s b.l)] w fun e w' => e = .returned (.agg (u8s (nodeH a b).l)) ∧ Step nowhere w w' :=
  (refNode_calls a.l b.l w a.len b.len).mono fun _ _ ⟨h1, h2⟩ => ⟨h1, ⟨h2.out⟩⟩
end Go.Proofs.YthcleccofccbdaaGreat
end
section
open Go Go.RowKit
namespace Go.Proofs.YthcleccofccbdaaGreat
def sub (l : List H32) (f t : Nat) : List H32 := (l.take t).drop f
end Go.Proofs.YthcleccofccbdaaGreat
end
section
open Go Go.RowKit
namespace Go.Proofs.YthcleccofccbdaaGreat
/-- the way up of any place -/
def pathA (l : List H32) (i : Int) : List H32 := if i < 0 ∨ (l.length : Int) ≤ i then [] else pathL l i.toNat
end Go.Proofs.YthcleccofccbdaaGreat
end
section
open Go Go.RowKit
namespace Go.Proofs.YthcleccofccbdaaGreat
theorem upL_drop (h : H32) (i : Nat) (l : List H32) (k : Nat) (hk : k < l.length) : upL h i (l.drop k) = upL (if i % 2 = 0 then nodeH h (hget l k) else nodeH (hget l k) h) (i / 2) (l.drop (k + 1)) := by
  rw [List.drop_eq_getElem_cons hk, upL]
  congr 1
  simp [hget, List.getD_eq_getElem?_getD, hk]
theorem i64_and1 (a : Int) : bits .and .i64 a 1 = a % 2 := by
  show IntKind.i64.wrap ((BitVec.ofInt 64 a &&& BitVec.ofInt 64 1).toNat : Int) = _
  have h1 : (BitVec.ofInt 64 1).toNat = 2 ^ 1 - 1 := by decide
  rw [BitVec.toNat_and, h1, Nat.and_two_pow_sub_one_eq_mod, BitVec.toNat_ofInt, IntKind.wrap_i64]
  omega
set_option maxRecDepth 100000 in
set_option maxHeartbeats 1600000 in
theorem upC {A : Option Addr} {n c : Nat} {l : List H32} (leaf : H32) (i : Nat) {w : World} [hr : HR w A (cellsOf l)] (hl : l.length = n) (hn : n ≤ 1000) (hi : i ≤ 9223372036854775807) :
    Calls Tryz.prog 207 #[.agg (u8s leaf.l), .int .i64 (i : Int), .slice A n c] w fun e w' => e = .returned (.agg (u8s (upL leaf i l).l)) ∧ Step nowhere w w' := by
  obtain ⟨R, hR⟩ : ∃ R, R = upL leaf i l := ⟨_, rfl⟩
  have HL := Lib.hid hl
  have HR0 : Hid (upL leaf i (l.drop 0) = R) := Lib.hid (by rw [hR]; rfl)
  rw [← hR]
  clear hR
  go_enter Tryz.func207, Tryz.ntmps207
  go_wp2_with (first | ((with_reducible apply (wpl_box_agg (dst := some 3))); (exact rfl); intro zl wzl _ _ _) | ((with_reducible apply (wpl_alloc (dst := some 6))); intro zo wzo _ _ _))
  go_loopw [1, 11] (fun iv kv wr => ∃ (k j : Nat) (h : H32), k ≤ n ∧ kv = .int .i64 (k : Int) ∧ iv = .int .i64 (j : Int) ∧ j ≤ 9223372036854775807 ∧ Hid (upL h j (l.drop k) = R) ∧ Step nowhere w wr ∧ HB wr zo 47 (u8s zeroH.l) ∧ HB wr zl 47 (u8s h.l)) (fun _ kv _ => n - (intOf kv).toNat)
  case atStart => exact ⟨0, i, leaf, Nat.zero_le _, rfl, rfl, hi, HR0, stepN, inferInstance, inferInstance⟩
  case round =>
    obtain ⟨k, j, h, hk, rfl, rfl, hj, HU, _, _, _⟩ := hrel
    by_cases hlt : k < n
    · have hkl : k < l.length := by have := HL.out; omega
      have hltI : (k : Int) < n := by omega
      have hup := upL_drop h j l k hkl
      by_cases hp : j % 2 = 0
      · have hb : (bits BinOp.and IntKind.i64 (j : Int) 1 == 0) = true := by rw [i64_and1]; simp; omega
        rw [if_pos hp] at hup
        have HUP := Lib.hid hup
        clear hup hp
        go_wp2_with (first | ((with_reducible apply (wpl_alloc (dst := some 8))); intro zt wzt _ _ _) | ((with_reducible apply wpl_loadrow); (exact rfl); infer_instance; infer_instance; (first | (with_reducible assumption) | (with_reducible exact H32.size _) | kernel_rfl)) | ((with_reducible apply wpl_storerow); (exact rfl); (exact rfl); infer_instance; infer_instance; (first | (with_reducible assumption) | (with_reducible exact H32.size _) | kernel_rfl); (first | (with_reducible assumption) | (with_reducible exact H32.size _) | kernel_rfl); (first | (with_reducible exact u8s_one _) | (with_reducible assumption) | kernel_rfl); intro ws _ _) | ((with_reducible apply wpl_indexH); (exact rfl); (exact rfl); infer_instance; infer_instance; (first | (with_reducible assumption) | omega); (first | (with_reducible assumption) | omega); (first | (with_reducible assumption) | omega)) | ((with_reducible apply (wpl_loadhash (t := 47))); (exact rfl); infer_instance; infer_instance; (first | (with_reducible assumption) | omega)))
        refine (nodeC h (hget l k) _).mono ?_
        rintro e w4 ⟨rfl, _⟩
        go_wp2_with (first | ((with_reducible apply wpl_storerow); (exact rfl); (exact rfl); infer_instance; infer_instance; (first | (with_reducible assumption) | (with_reducible exact H32.size _) | kernel_rfl); (first | (with_reducible assumption) | (with_reducible exact H32.size _) | kernel_rfl); (first | (with_reducible exact u8s_one _) | (with_reducible assumption) | kernel_rfl); intro ws _ _))
        refine ⟨⟨k + 1, j / 2, nodeH h (hget l k), by omega, by go_num, ?_, by omega, Lib.hid (by rw [← HUP.out]; exact HU.out), stepN, inferInstance, inferInstance⟩, by simp [intOf]; omega⟩
        simp
      · have hb : (bits BinOp.and IntKind.i64 (j : Int) 1 == 0) = false := by rw [i64_and1]; simp; omega
        rw [if_neg hp] at hup
        have HUP := Lib.hid hup
        clear hup hp
        go_wp2_with (first | ((with_reducible apply (wpl_alloc (dst := some 8))); intro zt wzt _ _ _) | ((with_reducible apply wpl_loadrow); (exact rfl); infer_instance; infer_instance; (first | (with_reducible assumption) | (with_reducible exact H32.size _) | kernel_rfl)) | ((with_reducible apply wpl_storerow); (exact rfl); (exact rfl); infer_instance; infer_instance; (first | (with_reducible assumption) | (with_reducible exact H32.size _) | kernel_rfl); (first | (with_reducible assumption) | (with_reducible exact H32.size _) | kernel_rfl); (first | (with_reducible exact u8s_one _) | (with_reducible assumption) | kernel_rfl); intro ws _ _) | ((with_reducible apply wpl_indexH); (exact rfl); (exact rfl); infer_instance; infer_instance; (first | (with_reducible assumption) | omega); (first | (with_reducible assumption) | omega); (first | (with_reducible assumption) | omega)) | ((with_reducible apply (wpl_loadhash (t := 47))); (exact rfl); infer_instance; infer_instance; (first | (with_reducible assumption) | omega)))
        refine (nodeC (hget l k) h _).mono ?_
        rintro e w4 ⟨rfl, _⟩
        go_wp2_with (first | ((with_reducible apply wpl_storerow); (exact rfl); (exact rfl); infer_instance; infer_instance; (first | (with_reducible assumption) | (with_reducible exact H32.size _) | kernel_rfl); (first | (with_reducible assumption) | (with_reducible exact H32.size _) | kernel_rfl); (first | (with_reducible exact u8s_one _) | (with_reducible assumption) | kernel_rfl); intro ws _ _))
        refine ⟨⟨k + 1, j / 2, nodeH (hget l k) h, by omega, by go_num, ?_, by omega, Lib.hid (by rw [← HUP.out]; exact HU.out), stepN, inferInstance, inferInstance⟩, by simp [intOf]; omega⟩
        simp
    · have hge : n ≤ k := by omega
      have hR : h = R := by
        have := HU.out
        rw [List.drop_of_length_le (by have := HL.out; omega)] at this
        exact this
      have HRR := Lib.hid hR
      clear hR
      go_wp2_with (first | ((with_reducible apply wpl_loadrow); (exact rfl); infer_instance; infer_instance; (first | (with_reducible assumption) | (with_reducible exact H32.size _) | kernel_rfl)) | ((with_reducible apply wpl_storerow); (exact rfl); (exact rfl); infer_instance; infer_instance; (first | (with_reducible assumption) | (with_reducible exact H32.size _) | kernel_rfl); (first | (with_reducible assumption) | (with_reducible exact H32.size _) | kernel_rfl); (first | (with_reducible exact u8s_one _) | (with_reducible assumption) | kernel_rfl); intro ws _ _))
      refine ret_row rfl rfl (n := 32) (H32.size _) rfl ⟨?_, stepN⟩
      rw [HRR.out]
set_option maxRecDepth 100000 in
set_option maxHeartbeats 1600000 in
theorem rupC {A : Option Addr} {n c : Nat} {l : List H32} (leaf : H32) (i : Nat) {w : World} [hr : HR w A (cellsOf l)] (hl : l.length = n) (hn : n ≤ 1000) (hi : i ≤ 9223372036854775807) :
    Calls Tryz.prog 202 #[.agg (u8s leaf.l), .int .i64 (i : Int), .slice A n c] w fun e w' => e = .returned (.agg (u8s (upL leaf i l).l)) ∧ Step nowhere w w' := by
  obtain ⟨R, hR⟩ : ∃ R, R = upL leaf i l := ⟨_, rfl⟩
  have HL := Lib.hid hl
  have HR0 : Hid (upL leaf i (l.drop 0) = R) := Lib.hid (by rw [hR]; rfl)
  rw [← hR]
  clear hR
  go_enter Tryz.func202, Tryz.ntmps202
  go_wp2_with (first | ((with_reducible apply (wpl_box_agg (dst := some 3))); (exact rfl); intro zl wzl _ _ _) | ((with_reducible apply (wpl_alloc (dst := some 6))); intro zo wzo _ _ _))
  go_loopw [1, 7] (fun iv kv wr => ∃ (k j : Nat) (h : H32), k ≤ n ∧ kv = .int .i64 (k : Int) ∧ iv = .int .i64 (j : Int) ∧ j ≤ 9223372036854775807 ∧ Hid (upL h j (l.drop k) = R) ∧ Step nowhere w wr ∧ HB wr zo 47 (u8s zeroH.l) ∧ HB wr zl 47 (u8s h.l)) (fun _ kv _ => n - (intOf kv).toNat)
  case atStart => exact ⟨0, i, leaf, Nat.zero_le _, rfl, rfl, hi, HR0, stepN, inferInstance, inferInstance⟩
  case round =>
    obtain ⟨k, j, h, hk, rfl, rfl, hj, HU, _, _, _⟩ := hrel
    by_cases hlt : k < n
    · have hkl : k < l.length := by have := HL.out; omega
      have hltI : (k : Int) < n := by omega
      have hup := upL_drop h j l k hkl
      by_cases hp : j % 2 = 0
      · have hb : (bits BinOp.and IntKind.i64 (j : Int) 1 == 0) = true := by rw [i64_and1]; simp; omega
        rw [if_pos hp] at hup
        have HUP := Lib.hid hup
        clear hup hp
        go_wp2_with fail
        refine wp_region_N ((only zl)) (by kernel_rfl) (fun wd _ _ => ?_)
        refine' takeH (i := 1) (v := _) rfl (by kernel_rfl) (by kernel_rfl) (by kernel_rfl) (fun _ _ _ h => h) (yields_of (by rfl) (fun w' _ => ?_)) inferInstance ?_
        rotate_left
        · (go_simp; try with_reducible rfl)
        try simp only [Act.put, sA]; try simp only [sB, sC]
        refine' takeH (i := 2) (v := _) rfl (by kernel_rfl) (by kernel_rfl) (by kernel_rfl) (fun _ _ _ h => h) (yields_of (by rfl) (fun w' _ => ?_)) inferInstance ?_
        rotate_left
        · (go_simp; try with_reducible rfl)
        try simp only [Act.put, sA]; try simp only [sB, sC]
        refine' takeH (i := 3) (v := _) rfl (by kernel_rfl) (by kernel_rfl) (by kernel_rfl) (fun _ _ _ h => h) (yields_of (by rfl) (fun w' _ => ?_)) inferInstance ?_
        rotate_left
        · ((with_reducible apply ev_indexH'); (exact rfl); (exact rfl); infer_instance; infer_instance; (first | (with_reducible assumption) | omega); (first | (with_reducible assumption) | omega); (first | (with_reducible assumption) | omega))
        try simp only [Act.put, sA]; try simp only [sB, sC]
        refine' takeH (i := 4) (v := _) rfl (by kernel_rfl) (by kernel_rfl) (by kernel_rfl) (fun _ _ _ h => h) (yields_of (by rfl) (fun w' _ => ?_)) inferInstance ?_
        rotate_left
        · ((with_reducible apply (ev_loadhash (t := 47))); (exact rfl); infer_instance; infer_instance; (first | (with_reducible assumption) | omega))
        try simp only [Act.put, sA]; try simp only [sB, sC]
        refine goH (i := 0) (by kernel_rfl) rfl (fun K_ hK_ => ?_)
        rw [if_pos (by kernel_rfl)]
        refine wpr_of_list ?_
        (first | ((with_reducible apply wpl_loadrow); (exact rfl); infer_instance; infer_instance; (first | (with_reducible assumption) | (with_reducible exact H32.size _) | kernel_rfl)) | ((with_reducible apply (wpl_loadint (t := 3))); (exact rfl); infer_instance; infer_instance; (first | (with_reducible assumption) | omega)) | ((with_reducible apply (wpl_loadbyte (t := 5))); (exact rfl); infer_instance; infer_instance; (first | (with_reducible assumption) | omega)) | ((with_reducible apply wpl_loadcell); (exact rfl); infer_instance; (exact rfl)) | ((with_reducible apply (wpl_loadhash (t := 47))); (exact rfl); infer_instance; infer_instance; (first | (with_reducible assumption) | omega)))
        refine wpList_nil ?_
        unfold onlyN
        refine hK_.out _ _ inferInstance (fun _ => ?_)
        clear hK_ K_
        try simp only [Act.put, sA]; try simp only [sB, sC]
        refine goH (i := 5) (by kernel_rfl) rfl (fun K_ hK_ => ?_)
        go_simp
        refine (rnodeC h (hget l k) _).mono ?_
        rintro e w4 ⟨rfl, _⟩
        refine hK_.out _ _ inferInstance (fun _ => ?_)
        clear hK_ K_
        try simp only [Act.put, sA]; try simp only [sB, sC]
        refine goH (i := 6) (by kernel_rfl) rfl (fun K_ hK_ => ?_)
        rw [if_pos (by kernel_rfl)]
        refine wpr_of_list ?_
        (first | ((with_reducible apply wpl_storerow); (exact rfl); (exact rfl); infer_instance; infer_instance; (first | (with_reducible assumption) | (with_reducible exact H32.size _) | kernel_rfl); (first | (with_reducible assumption) | (with_reducible exact H32.size _) | kernel_rfl); (first | (with_reducible exact u8s_one _) | (with_reducible assumption) | kernel_rfl); intro ws _ _) | ((with_reducible apply (wpl_storeint (t := 3))); (exact rfl); (exact rfl); infer_instance; (first | (with_reducible assumption) | omega); intro ws _ _) | ((with_reducible apply (wpl_storebyte (t := 5))); (exact rfl); (exact rfl); infer_instance; (first | (with_reducible assumption) | omega | (focus (simp; done)) | (focus (simp; omega; done)) | decide); (constructor <;> omega); intro ws _ _) | ((with_reducible apply wpl_storecell); (exact rfl); (exact rfl); infer_instance; (exact rfl); (first | (with_reducible assumption) | omega | (focus (simp; done)) | (focus (simp; omega; done)) | decide); intro ws _ _) | ((with_reducible apply (wpl_storehash (t := 47))); (exact rfl); (exact rfl); infer_instance; infer_instance; (first | (with_reducible assumption) | omega | (focus (simp; done)) | (focus (simp; omega; done)) | decide); intro ws _ _))
        refine wpList_nil ?_
        unfold onlyN
        refine hK_.out _ _ inferInstance (fun _ => ?_)
        clear hK_ K_
        try simp only [Act.put]
        refine wpAnyH_done (by kernel_rfl) ?_ _
        go_wp2_with fail
        refine ⟨⟨k + 1, j / 2, nodeH h (hget l k), by omega, by go_num, ?_, by omega, Lib.hid (by rw [← HUP.out]; exact HU.out), stepN, inferInstance, inferInstance⟩, by simp [intOf]; omega⟩
        simp
      · have hb : (bits BinOp.and IntKind.i64 (j : Int) 1 == 0) = false := by rw [i64_and1]; simp; omega
        rw [if_neg hp] at hup
        have HUP := Lib.hid hup
        clear hup hp
        go_wp2_with fail
        refine wp_region_N ((only zl)) (by kernel_rfl) (fun wd _ _ => ?_)
        refine' takeH (i := 0) (v := _) rfl (by kernel_rfl) (by kernel_rfl) (by kernel_rfl) (fun _ _ _ h => h) (yields_of (by rfl) (fun w' _ => ?_)) inferInstance ?_
        rotate_left
        · (go_simp; try with_reducible rfl)
        try simp only [Act.put, sA]; try simp only [sB, sC]
        refine' takeH (i := 1) (v := _) rfl (by kernel_rfl) (by kernel_rfl) (by kernel_rfl) (fun _ _ _ h => h) (yields_of (by rfl) (fun w' _ => ?_)) inferInstance ?_
        rotate_left
        · (go_simp; try with_reducible rfl)
        try simp only [Act.put, sA]; try simp only [sB, sC]
        refine' takeH (i := 2) (v := _) rfl (by kernel_rfl) (by kernel_rfl) (by kernel_rfl) (fun _ _ _ h => h) (yields_of (by rfl) (fun w' _ => ?_)) inferInstance ?_
        rotate_left
        · ((with_reducible apply ev_indexH'); (exact rfl); (exact rfl); infer_instance; infer_instance; (first | (with_reducible assumption) | omega); (first | (with_reducible assumption) | omega); (first | (with_reducible assumption) | omega))
        try simp only [Act.put, sA]; try simp only [sB, sC]
        refine' takeH (i := 3) (v := _) rfl (by kernel_rfl) (by kernel_rfl) (by kernel_rfl) (fun _ _ _ h => h) (yields_of (by rfl) (fun w' _ => ?_)) inferInstance ?_
        rotate_left
        · ((with_reducible apply (ev_loadhash (t := 47))); (exact rfl); infer_instance; infer_instance; (first | (with_reducible assumption) | omega))
        try simp only [Act.put, sA]; try simp only [sB, sC]
        refine goH (i := 4) (by kernel_rfl) rfl (fun K_ hK_ => ?_)
        rw [if_pos (by kernel_rfl)]
        refine wpr_of_list ?_
        (first | ((with_reducible apply wpl_loadrow); (exact rfl); infer_instance; infer_instance; (first | (with_reducible assumption) | (with_reducible exact H32.size _) | kernel_rfl)) | ((with_reducible apply (wpl_loadint (t := 3))); (exact rfl); infer_instance; infer_instance; (first | (with_reducible assumption) | omega)) | ((with_reducible apply (wpl_loadbyte (t := 5))); (exact rfl); infer_instance; infer_instance; (first | (with_reducible assumption) | omega)) | ((with_reducible apply wpl_loadcell); (exact rfl); infer_instance; (exact rfl)) | ((with_reducible apply (wpl_loadhash (t := 47))); (exact rfl); infer_instance; infer_instance; (first | (with_reducible assumption) | omega)))
        refine wpList_nil ?_
        unfold onlyN
        refine hK_.out _ _ inferInstance (fun _ => ?_)
        clear hK_ K_
        try simp only [Act.put, sA]; try simp only [sB, sC]
        refine goH (i := 5) (by kernel_rfl) rfl (fun K_ hK_ => ?_)
        go_simp
        refine (rnodeC (hget l k) h _).mono ?_
        rintro e w4 ⟨rfl, _⟩
        refine hK_.out _ _ inferInstance (fun _ => ?_)
        clear hK_ K_
        try simp only [Act.put, sA]; try simp only [sB, sC]
        refine goH (i := 6) (by kernel_rfl) rfl (fun K_ hK_ => ?_)
        rw [if_pos (by kernel_rfl)]
        refine wpr_of_list ?_
        (first | ((with_reducible apply wpl_storerow); (exact rfl); (exact rfl); infer_instance; infer_instance; (first | (with_reducible assumption) | (with_reducible exact H32.size _) | kernel_rfl); (first | (with_reducible assumption) | (with_reducible exact H32.size _) | kernel_rfl); (first | (with_reducible exact u8s_one _) | (with_reducible assumption) | kernel_rfl); intro ws _ _) | ((with_reducible apply (wpl_storeint (t := 3))); (exact rfl); (exact rfl); infer_instance; (first | (with_reducible assumption) | omega); intro ws _ _) | ((with_reducible apply (wpl_storebyte (t := 5))); (exact rfl); (exact rfl); infer_instance; (first | (with_reducible assumption) | omega | (focus (simp; done)) | (focus (simp; omega; done)) | decide); (constructor <;> omega); intro ws _ _) | ((with_reducible apply wpl_storecell); (exact rfl); (exact rfl); infer_instance; (exact rfl); (first | (with_reducible assumption) | omega | (focus (simp; done)) | (focus (simp; omega; done)) | decide); intro ws _ _) | ((with_reducible apply (wpl_storehash (t := 47))); (exact rfl); (exact rfl); infer_instance; infer_instance; (first | (with_reducible assumption) | omega | (focus (simp; done)) | (focus (simp; omega; done)) | decide); intro ws _ _))
        refine wpList_nil ?_
        unfold onlyN
        refine hK_.out _ _ inferInstance (fun _ => ?_)
        clear hK_ K_
        try simp only [Act.put]
        refine wpAnyH_done (by kernel_rfl) ?_ _
        go_wp2_with fail
        refine ⟨⟨k + 1, j / 2, nodeH (hget l k) h, by omega, by go_num, ?_, by omega, Lib.hid (by rw [← HUP.out]; exact HU.out), stepN, inferInstance, inferInstance⟩, by simp [intOf]; omega⟩
        simp
    · have hge : n ≤ k := by omega
      have hR : h = R := by
        have := HU.out
        rw [List.drop_of_length_le (by have := HL.out; omega)] at this
        exact this
      have HRR := Lib.hid hR
      clear hR
      go_wp2_with (first | ((with_reducible apply wpl_loadrow); (exact rfl); infer_instance; infer_instance; (first | (with_reducible assumption) | (with_reducible exact H32.size _) | kernel_rfl)) | ((with_reducible apply wpl_storerow); (exact rfl); (exact rfl); infer_instance; infer_instance; (first | (with_reducible assumption) | (with_reducible exact H32.size _) | kernel_rfl); (first | (with_reducible assumption) | (with_reducible exact H32.size _) | kernel_rfl); (first | (with_reducible exact u8s_one _) | (with_reducible assumption) | kernel_rfl); intro ws _ _))
      refine ret_row rfl rfl (n := 32) (H32.size _) rfl ⟨?_, stepN⟩
      rw [HRR.out]
end Go.Proofs.YthcleccofccbdaaGreat
end
section
open Go Go.RowKit
namespace Go.Proofs.YthcleccofccbdaaGreat
theorem HR.ofBlkL {w : World} {z : Nat} {t : TypeId} {cs : Array Value} (h : HB w z t cs) : HR w (some ⟨z, 0, none⟩) cs.toList := ⟨fun k u hk => by
  refine ⟨_, rfl, ?_⟩
  rw [add_row, h.out.cell k]
  simpa using hk⟩
def keyL (seed : H32) (used : Int) (gr : Bool) (tree : List H32) : List Value := bs seed.l ++ (.int .i64 used :: .bool gr :: cellsOf tree)
def leavesS (seed : H32) : List H32 := (List.range 16).map fun (i : Nat) => publicS seed (i : Int)
section
variable {seed : H32} {used : Int} {gr : Bool} {tree : List H32}
end
section
variable {P : Program} {ops : Array Oper} {rest : List Oper} {a : Act} {w : World} {Q : Exit → Act → World → Prop} {dst : Option Tmp} {ty : TypeId} {pos : String} {after : Array Edge} {gd : Option (Nat × Bool)}
variable {seed : H32} {used : Int} {gr : Bool} {tree : List H32}
/-- a whole array as a slice -/
theorem wpl_sliceAr {t e : TypeId} {x : Operand} {g k m s : Nat} (hx : a.eval x = .pointer (some ⟨g, k, none⟩)) (hu : P.underlying t = some (.array m e)) (hs : (P.info? e).map (·.size) = some s)
    (h : wpList P ops Q rest (a.put dst (.slice (some ⟨g, k, none⟩) m m)) w) : wpList P ops Q (⟨dst, .slice t x none none none, ty, pos, after, none⟩ :: rest) a w :=
  wpl_of_run rfl (by
    show ((Instr.sliceAt t (a.eval x) none none none) >>= fun v => pure (Next.value v)).run P w = _
    rw [hx]
    cases hq : P.info? e with
    | none => rw [hq] at hs; simp at hs
    | some j =>
      rw [hq] at hs
      simp at hs
      simp [Instr.sliceAt, run_underlying hu, Instr.sureAddr, Instr.sliceBounds, sizeOf, typeInfo, hq, add_zero_spot]) h
end
end Go.Proofs.YthcleccofccbdaaGreat
end
section
open Go Go.RowKit
namespace Go.Proofs.YthcleccofccbdaaGreat
class NewB (w : outParam World) (g : Nat) : Prop where
  out : w.heap.size ≤ g
instance Above.newB (w0 w : World) (g : Nat) [b : NewB w g] [n : Nw w0 w] : Above w0 (only g) := ⟨fun k h => by
  have h' : k = g := h
  rw [h']
  exact Nat.le_trans n.out.size b.out⟩
instance (priority := 900) OffB.newB1 (w : World) (g z : Nat) (t : TypeId) (cs : Array Value) [b : NewB w g] [h : HB w z t cs] : OffB (only g) z := ⟨fun e => by
  have e' : z = g := e
  have := h.out.lt
  have := b.out
  omega⟩
instance (priority := 900) OffB.newB3 (w : World) (g z : Nat) (t : TypeId) (cs : Array Value) [b : NewB w g] [h : HB w z t cs] : OffB (only z) g := ⟨fun e => by
  have e' : g = z := e
  have := h.out.lt
  have := b.out
  omega⟩
instance (priority := 900) OffR.newB1 (w : World) (g : Nat) (A : Option Addr) (vs : List Value) [b : NewB w g] [h : HR w A vs] : OffR (only g) A vs := ⟨fun hne ad e hk => by
  have h1 := rd_lt h.out hne e
  have hk' : ad.block = g := hk
  have := b.out
  omega⟩
instance iKyB_1 : ZeroT Tryz.prog 135 #[.int .i64 0, .slice none 0 0, .slice none 0 0] := ⟨.agg #[.int .i64 0, .slice none 0 0, .slice none 0 0], fun _ => by kernel_rfl, rfl⟩
instance iKyB_2 : RowT Tryz.prog 135 3 := ⟨by kernel_rfl, _, Tryz.underlying135, rfl⟩
instance iKyB_3 : CellT Tryz.prog 40 := ⟨fun _ => by kernel_rfl, fun _ => by kernel_rfl⟩
instance iKyB_4 : CellT Tryz.prog 4 := ⟨fun _ => by kernel_rfl, fun _ => by kernel_rfl⟩
def tree0 : List H32 := List.replicate 16 zeroH
def oneH : H32 := ⟨1 :: List.replicate 31 0, rfl⟩
end Go.Proofs.YthcleccofccbdaaGreat
end
