/- Conv, WuB, WxA, WxB, WuC -/
import Derived.Test.YthcleccofccbdaaGreatTbBase
import Derived.Laws.BytesArg
import Derived.Laws.BytesString
import Derived.Test.YthcleccofccbdaaGreatTbWuA
import Derived.Test.YthcleccofccbdaaGreatTbWsB
section
open Go Go.RowKit
namespace Go.Proofs.YthcleccofccbdaaGreat
def strL (xs : List UInt8) : ByteArray := ⟨xs.toArray⟩
theorem list_loop (a : ByteArray) : ∀ (m i : Nat) (r : List UInt8), m = a.size - i → ByteArray.toList.loop a i r = r.reverse ++ a.data.toList.drop i
  | 0, i, r, h => by
    have hsz : a.data.toList.length = a.size := Array.length_toList
    rw [ByteArray.toList.loop, if_neg (by omega), List.drop_of_length_le (by omega), List.append_nil]
  | m + 1, i, r, h => by
    rw [ByteArray.toList.loop, if_pos (by omega), list_loop a m (i + 1) _ (by omega)]
    have hsz : a.data.toList.length = a.size := Array.length_toList
    have hi : i < a.data.toList.length := by omega
    rw [List.drop_eq_getElem_cons hi]
    have e : a.get! i = a.data.toList[i] := by
      simp only [ByteArray.get!]
      rw [getElem!_pos a.data i (by simpa using hi)]
      simp
    rw [e]
    simp
theorem strL_list (xs : List UInt8) : (strL xs).toList = xs := by
  show ByteArray.toList.loop (strL xs) 0 [] = xs
  rw [list_loop (strL xs) _ 0 [] rfl]
  simp [strL]
theorem strL_eq (xs ys : List UInt8) : ((strL xs).toList == (strL ys).toList) = decide (xs = ys) := by
  rw [strL_list, strL_list, Bool.eq_iff_iff, beq_iff_eq, decide_eq_true_eq]
section
variable {P : Program} {ops : Array Oper} {rest : List Oper} {a : Act} {w : World} {Q : Exit → Act → World → Prop} {dst : Option Tmp} {ty : TypeId} {pos : String} {after : Array Edge}
theorem foldl_push (xs : List UInt8) (b : ByteArray) : (xs.map fun x => (x.toNat : Int)).foldl (fun a n => a.push (UInt8.ofNat n.toNat)) b = ⟨b.data ++ xs.toArray⟩ := by
  induction xs generalizing b with
  | nil => simp
  | cons x xs ih =>
    rw [List.map_cons, List.foldl_cons, ih]
    congr 1
    apply Array.ext'
    simp [ByteArray.push]
theorem run_convS {src td e : TypeId} {A : Option Addr} {n c : Nat} {xs : List UInt8} (hr : Rd w A (bs xs)) (hn : xs.length = n)
    (hs : P.underlying src = some (.slice e)) (he : P.underlying e = some (.int .u8)) (hd : P.underlying td = some .string) : (convert src td (.slice A n c)).run P w = .ok (.string (strL xs)) w := by
  cases A with
  | none =>
    have hx : xs = [] := by
      cases xs with
      | nil => rfl
      | cons x l => obtain ⟨ad, h, _⟩ := hr 0 _ rfl; cases h
    subst hx
    subst hn
    exact run_convert_bytes_nil w src e hs he _ c td hd
  | some ad =>
    have hl : (loadCells ad n).run P w = .ok ((xs.map fun x => (x.toNat : Int)).map (Value.int .u8)).toArray w := by
      have h := run_loadCells_list (P := P) w ad (bs xs) (fun j v hv => by
        obtain ⟨ad', e1, e2⟩ := hr j v hv
        injection e1 with e1
        subst e1
        exact e2)
      rw [bs_length, hn] at h
      rw [h, List.map_map]
      rfl
    rw [run_convert_bytes_string w src td e ad n c hs he hd, run_bytesToString w ad n c _ hl, foldl_push]
    simp [strL]
theorem wpl_conv {src td e : TypeId} {x : Operand} {A : Option Addr} {n c : Nat} {xs : List UInt8} (hx : a.eval x = .slice A n c) (hr : HR w A (bs xs)) (hn : xs.length = n)
    (hs : P.underlying src = some (.slice e)) (he : P.underlying e = some (.int .u8)) (hd : P.underlying td = some .string)
    (h : wpList P ops Q rest (a.put dst (.string (strL xs))) w) : wpList P ops Q (⟨dst, .convert src td x, ty, pos, after, none⟩ :: rest) a w :=
  wpl_of_run rfl (by
    show ((convert src td (a.eval x)) >>= fun v => pure (Next.value v)).run P w = _
    rw [hx, Sem.run_bind, run_convS hr.out hn hs he hd]
    rfl) h
end
end Go.Proofs.YthcleccofccbdaaGreat
end
section
open Go Go.RowKit
namespace Go.Proofs.YthcleccofccbdaaGreat
def repL (u n : ByteArray) (h : H32) (c k : Int) : List Value := .string u :: .string n :: (bs h.l ++ [.int .i64 c, .int .i64 k])
def nameE (l : List UInt8) : Bool := l.isEmpty || nameL l
def repB (l m : List UInt8) (c k : Int) : Bool := nameL l && nameE m && numB c && numB k
end Go.Proofs.YthcleccofccbdaaGreat
end
section
open Go Go.RowKit
namespace Go.Proofs.YthcleccofccbdaaGreat
section
variable {P : Program} {ops : Array Oper} {rest : List Oper} {a : Act} {w : World} {Q : Exit → Act → World → Prop} {dst : Option Tmp} {ty : TypeId} {pos : String} {after : Array Edge}
theorem wpl_ltI {t : TypeId} {x : Operand} {v c : Int} {b : Bool} (hx : a.eval x = .int .i64 v) (hb : decide (v < c) = b) (h : wpList P ops Q rest (a.put dst (.bool b)) w) : wpList P ops Q (⟨dst, .binOp .lss t x (.const (.int .i64 c)) t, ty, pos, after, none⟩ :: rest) a w := by
  subst hb
  refine wpl_of_run (v := .bool (decide (v < c))) rfl ?_ h
  show ((Go.binOp .lss t (a.eval x) (.int .i64 c)) >>= fun v => pure (Next.value v)).run P w = _
  rw [hx]
  rfl
theorem wpl_gtI {t : TypeId} {x : Operand} {v c : Int} {b : Bool} (hx : a.eval x = .int .i64 v) (hb : decide (c < v) = b) (h : wpList P ops Q rest (a.put dst (.bool b)) w) : wpList P ops Q (⟨dst, .binOp .gtr t x (.const (.int .i64 c)) t, ty, pos, after, none⟩ :: rest) a w := by
  subst hb
  refine wpl_of_run (v := .bool (decide (c < v))) rfl ?_ h
  show ((Go.binOp .gtr t (a.eval x) (.int .i64 c)) >>= fun v => pure (Next.value v)).run P w = _
  rw [hx]
  rfl
end
theorem rVersion_calls (n : Int) (w : World) : Calls Tryz.prog 53 #[.int .i64 n] w fun e w' => e = .returned (.bool (verB n)) ∧ Step nowhere w w' := by
  by_cases h1 : 1 ≤ n
  · by_cases h2 : n ≤ 1073741824
    · have e : verB n = true := by simp [verB, h1, h2]
      rw [e]
      clear e
      go_enter Tryz.func53, Tryz.ntmps53
      go_wp2_with fail
      go_ret
      exact ⟨rfl, stepN⟩
    · have e : verB n = false := by simp [verB, h2]
      rw [e]
      clear e
      go_enter Tryz.func53, Tryz.ntmps53
      go_wp2_with fail
      go_ret
      exact ⟨rfl, stepN⟩
  · have e : verB n = false := by simp [verB, h1]
    rw [e]
    clear e
    go_enter Tryz.func53, Tryz.ntmps53
    go_wp2_with fail
    go_ret
    exact ⟨rfl, stepN⟩
instance elemWxI : ElemT Tryz.prog 167 3 1 8 (.int .i64 0) := ⟨⟨Tryz.underlying167, by kernel_rfl, rfl, by decide⟩⟩
def allNum (l : List Int) : Bool := l.all numB
theorem allNum_take (l : List Int) (k : Nat) (h : k < l.length) : allNum (l.take (k + 1)) = (allNum (l.take k) && numB (iget l k)) := by
  unfold allNum
  rw [List.take_succ_eq_append_getElem h, List.all_append]
  simp [iget, List.getD_eq_getElem?_getD, h]
theorem allNum_no (l : List Int) (k : Nat) (h : k < l.length) (hb : numB (iget l k) = false) : allNum l = false := by
  unfold allNum
  rw [List.all_eq_false]
  refine ⟨l[k], List.getElem_mem h, ?_⟩
  have e : iget l k = l[k] := by simp [iget, List.getD_eq_getElem?_getD, h]
  rw [e] at hb
  simp [hb]
set_option maxRecDepth 100000 in
set_option maxHeartbeats 800000 in
theorem rNum_calls {A : Option Addr} {n c : Nat} {l : List Int} {w : World} [hr : HR w A (i64l l)] (hl : l.length = n) (hmax : n ≤ 9223372036854775807) :
    Calls Tryz.prog 54 #[.slice A n c] w fun e w' => e = .returned (.bool (allNum l)) ∧ Step nowhere w w' := by
  obtain ⟨R, hR⟩ : ∃ R, R = allNum l := ⟨_, rfl⟩
  have HR1 := Lib.hid hR
  rw [← hR]
  clear hR
  go_enter Tryz.func54, Tryz.ntmps54
  go_wp2_with fail
  go_loopw [3] (fun iv wr => ∃ k : Nat, k ≤ n ∧ iv = .int .i64 (k : Int) ∧ Nw w wr ∧ HR wr A (i64l l) ∧ Hid (allNum (l.take k) = true)) (fun iv _ => n - (intOf iv).toNat)
  case atStart => exact ⟨0, Nat.zero_le _, rfl, inferInstance, inferInstance, Lib.hid rfl⟩
  case round =>
    obtain ⟨k, hk, rfl, _, _, HB1⟩ := hrel
    have st : Step nowhere w wr := ⟨(inferInstance : Nw w wr).out⟩
    by_cases hkn : k < n
    · have hltI : (k : Int) < n := by omega
      have hkl : k < l.length := by omega
      obtain ⟨v, hv⟩ : ∃ v, v = iget l k := ⟨_, rfl⟩
      have hall := allNum_take l k hkl
      have HV := Lib.hid hv
      by_cases h1 : 0 ≤ v
      · by_cases h2 : v ≤ 1073741824
        · have HB2 : Hid (allNum (l.take (k + 1)) = true) := Lib.hid (by rw [hall, HB1.out, ← hv]; simp [numB, h1, h2])
          rw [hv] at h1 h2
          clear hall hv
          go_wp2_with (first | ((with_reducible apply (wpl_guard (op := .binOp _ _ _ _ _))); (exact rfl)) | ((with_reducible apply wpl_ltI); (exact rfl); (first | (exact decide_eq_true (by omega)) | (exact decide_eq_false (by omega)))) | ((with_reducible apply wpl_gtI); (exact rfl); (first | (exact decide_eq_true (by omega)) | (exact decide_eq_false (by omega)))) | ((with_reducible apply (wpl_guard (op := .load _ _))); (exact rfl)) | ((with_reducible apply (wpl_guard (op := .indexAddr _ _ _))); (exact rfl)) | ((with_reducible apply wpl_indexI); (exact rfl); (exact rfl); infer_instance; infer_instance; (exact hl); (exact hkn)) | ((with_reducible apply wpl_loadI); (exact rfl); infer_instance; infer_instance; (exact hkl)))
          exact ⟨⟨k + 1, by omega, by go_num, inferInstance, inferInstance, HB2⟩, by simp [intOf]; omega⟩
        · have HF : Hid (R = false) := Lib.hid (by rw [HR1.out, allNum_no l k hkl (by rw [← hv]; simp [numB, h2])])
          obtain rfl : R = false := HF.out
          rw [hv] at h1 h2
          clear hall hv
          go_wp2_with (first | ((with_reducible apply (wpl_guard (op := .binOp _ _ _ _ _))); (exact rfl)) | ((with_reducible apply wpl_ltI); (exact rfl); (first | (exact decide_eq_true (by omega)) | (exact decide_eq_false (by omega)))) | ((with_reducible apply wpl_gtI); (exact rfl); (first | (exact decide_eq_true (by omega)) | (exact decide_eq_false (by omega)))) | ((with_reducible apply (wpl_guard (op := .load _ _))); (exact rfl)) | ((with_reducible apply (wpl_guard (op := .indexAddr _ _ _))); (exact rfl)) | ((with_reducible apply wpl_indexI); (exact rfl); (exact rfl); infer_instance; infer_instance; (exact hl); (exact hkn)) | ((with_reducible apply wpl_loadI); (exact rfl); infer_instance; infer_instance; (exact hkl)))
          go_ret
          exact ⟨rfl, st⟩
      · have HF : Hid (R = false) := Lib.hid (by rw [HR1.out, allNum_no l k hkl (by rw [← hv]; simp [numB, h1])])
        obtain rfl : R = false := HF.out
        rw [hv] at h1
        clear hall hv
        go_wp2_with (first | ((with_reducible apply wpl_ltI); (exact rfl); (first | (exact decide_eq_true (by omega)) | (exact decide_eq_false (by omega)))) | ((with_reducible apply wpl_indexI); (exact rfl); (exact rfl); infer_instance; infer_instance; (exact hl); (exact hkn)) | ((with_reducible apply wpl_loadI); (exact rfl); infer_instance; infer_instance; (exact hkl)))
        go_ret
        exact ⟨rfl, st⟩
    · obtain rfl : k = n := by omega
      have HF : Hid (R = true) := Lib.hid (by
        have h1 := HB1.out
        rw [List.take_of_length_le (by omega)] at h1
        rw [HR1.out, h1])
      obtain rfl : R = true := HF.out
      have hltI : ¬ (k : Int) < k := by omega
      go_wp2_with fail
      go_ret
      exact ⟨rfl, st⟩
end Go.Proofs.YthcleccofccbdaaGreat
end
section
open Go Go.RowKit
namespace Go.Proofs.YthcleccofccbdaaGreat
theorem HR.ints1 {w : World} {z : Nat} {t : TypeId} {a : Int} (h : HB w z t #[.int .i64 a]) : HR w (some ⟨z, 0, none⟩) (i64l [a]) := ⟨h.rdL⟩
theorem allNum1 (a : Int) : allNum [a] = numB a := by simp [allNum]
end Go.Proofs.YthcleccofccbdaaGreat
end
section
open Go Go.RowKit
namespace Go.Proofs.YthcleccofccbdaaGreat
end Go.Proofs.YthcleccofccbdaaGreat
end
