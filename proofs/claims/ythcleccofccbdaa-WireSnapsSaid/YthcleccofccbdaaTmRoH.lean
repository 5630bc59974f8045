/- WxA, WxB, WzA, WzB, UnD, RoB, RoC, RoM, RoE, RoF, RoG, RoD, RoH -/
import Derived.Test.YthcleccofccbdaaTmWsB
import Derived.Test.YthcleccofccbdaaTmWuC
import Derived.Test.YthcleccofccbdaaTmOcRfC
import Derived.Test.YthcleccofccbdaaTmRdD
import Derived.Test.YthcleccofccbdaaTmRoR
section
open Go Go.RowKit
namespace Go.Proofs.Ythcleccofccbdaa
section
variable {P : Program} {ops : Array Oper} {rest : List Oper} {a : Act} {w : World} {Q : Exit → Act → World → Prop} {dst : Option Tmp} {ty : TypeId} {pos : String} {after : Array Edge}
theorem wpl_ltB {t : TypeId} {x : Operand} {v c : Int} {b : Bool} (hx : a.eval x = .int .u8 v) (hb : decide (v < c) = b) (h : wpList P ops Q rest (a.put dst (.bool b)) w) : wpList P ops Q (⟨dst, .binOp .lss t x (.const (.int .u8 c)) t, ty, pos, after, none⟩ :: rest) a w := by
  subst hb
  refine wpl_of_run (v := .bool (decide (v < c))) rfl ?_ h
  show ((Go.binOp .lss t (a.eval x) (.int .u8 c)) >>= fun v => pure (Next.value v)).run P w = _
  rw [hx]
  rfl
theorem wpl_gtB {t : TypeId} {x : Operand} {v c : Int} {b : Bool} (hx : a.eval x = .int .u8 v) (hb : decide (c < v) = b) (h : wpList P ops Q rest (a.put dst (.bool b)) w) : wpList P ops Q (⟨dst, .binOp .gtr t x (.const (.int .u8 c)) t, ty, pos, after, none⟩ :: rest) a w := by
  subst hb
  refine wpl_of_run (v := .bool (decide (c < v))) rfl ?_ h
  show ((Go.binOp .gtr t (a.eval x) (.int .u8 c)) >>= fun v => pure (Next.value v)).run P w = _
  rw [hx]
  rfl
theorem wpl_ltI {t : TypeId} {x : Operand} {v c : Int} {b : Bool} (hx : a.eval x = .int .i64 v) (hb : decide (v < c) = b) (h : wpList P ops Q rest (a.put dst (.bool b)) w) : wpList P ops Q (⟨dst, .binOp .lss t x (.const (.int .i64 c)) t, ty, pos, after, none⟩ :: rest) a w := by
  subst hb
  refine wpl_of_run (v := .bool (decide (v < c))) rfl ?_ h
  show ((Go.binOp .lss t (a.eval x) (.int .i64 c)) >>= fun v => pure (Next.value v)).run P w = _
  rw [hx]
  rfl
theorem wpl_gtI {t : TypeId} {x : Operand} {v c : Int} {b : Bool} (hx : a.eval x = .int .i64 v) (hb : decide (c < v) = b) (h : wpList P ops Q rest (a.put dst (.bool b)) w) : wpList P ops Q (⟨dst, .binOp .gtr t x (.const (.int .i64 c)) t, ty, pos, after, none⟩ :: rest) a w := by
  subst hb
  refine wpl_of_run (v := .bool (decide (c < v))) rfl ?_ h
  show ((Go.binOp .gtr t (a.eval x) (.int .i64 c)) >>= fun v => pure (Next.value v)).run P w = _
  rw [hx]
  rfl
end
set_option maxRecDepth 100000 in
set_option maxHeartbeats 1600000 in
theorem rName_calls (s : ByteArray) (l : List UInt8) (hl : s.data.toList = l) (hmax : s.size ≤ 9223372036854775807) (w : World) :
    Calls Try.prog 24 #[.string s] w fun e w' => e = .returned (.bool (nameL l)) ∧ Step nowhere w w' := by
  have hsz : l.length = s.size := by rw [← hl]; exact Array.length_toList (xs := s.data)
  obtain ⟨R, hR⟩ : ∃ R, R = nameL l := ⟨_, rfl⟩
  have HR := Lib.hid hR
  have HS := Lib.hid hsz
  rw [← hR]
  clear hR hsz
  go_enter Try.func24, Try.ntmps24
  go_wp2_with fail
  go_loopw [3] (fun iv wr => ∃ k : Nat, k ≤ s.size ∧ iv = .int .i64 (k : Int) ∧ Nw w wr ∧ Hid ((l.take k).all goodB = true)) (fun iv _ => s.size - (intOf iv).toNat)
  case atStart => exact ⟨0, Nat.zero_le _, rfl, inferInstance, Lib.hid rfl⟩
  case round =>
    obtain ⟨k, hk, rfl, _, HB1⟩ := hrel
    have st : Step nowhere w wr := ⟨(inferInstance : Nw w wr).out⟩
    by_cases hlt : k < s.size
    · have hltI : (k : Int) < s.size := by omega
      have hkl : k < l.length := by have := HS.out; omega
      obtain ⟨v, hv⟩ : ∃ v, (bget l k).toNat = v := ⟨_, rfl⟩
      have hg : goodB (bget l k) = ((decide (97 ≤ v) && decide (v ≤ 122)) || (decide (48 ≤ v) && decide (v ≤ 57)) || decide (v = 45)) := by unfold goodB; rw [hv]
      have hcase := good_case v hg
      have hall := all_take l k hkl
      have HV := Lib.hid hv
      clear hv hg
      rcases hcase with ⟨hg, hc⟩ | ⟨hg, hc⟩
      · have HB2 : Hid ((l.take (k + 1)).all goodB = true) := Lib.hid (by rw [hall, HB1.out, hg]; rfl)
        clear hg hall
        rcases hc with ⟨b1, b2⟩ | ⟨_, _, h⟩ | ⟨b1, b2, b3⟩ | ⟨b1, b2, b3⟩
        rotate_left 1
        · exact h.elim
        all_goals
          go_wp2_with (first | ((with_reducible apply (wpl_guard (op := .index _ _ _))); (exact rfl)) | ((with_reducible apply (wpl_guard (op := .binOp _ _ _ _ _))); (exact rfl)) | ((with_reducible apply wpl_ltB); (exact rfl); (first | (exact decide_eq_true (by omega)) | (exact decide_eq_false (by omega)))) | ((with_reducible apply wpl_gtB); (exact rfl); (first | (exact decide_eq_true (by omega)) | (exact decide_eq_false (by omega)))) | ((with_reducible apply (wpl_indexStr hl HV.out)); (exact rfl); (exact rfl); (exact Try.underlying9); (exact hkl)))
          exact ⟨⟨k + 1, by omega, by go_num, inferInstance, HB2⟩, by simp [intOf]; omega⟩
      · have HF : Hid (R = false) := Lib.hid (by
          rw [HR.out, nameL, all_no l k hkl hg, Bool.and_false])
        obtain rfl : R = false := HF.out
        clear hg hall
        rcases hc with ⟨b1, b2, b3, b4, b5⟩ | ⟨b1, b2, b3, b4⟩ | ⟨b1, b2, b3⟩
        all_goals
          go_wp2_with (first | ((with_reducible apply (wpl_guard (op := .index _ _ _))); (exact rfl)) | ((with_reducible apply (wpl_guard (op := .binOp _ _ _ _ _))); (exact rfl)) | ((with_reducible apply wpl_ltB); (exact rfl); (first | (exact decide_eq_true (by omega)) | (exact decide_eq_false (by omega)))) | ((with_reducible apply wpl_gtB); (exact rfl); (first | (exact decide_eq_true (by omega)) | (exact decide_eq_false (by omega)))) | ((with_reducible apply (wpl_indexStr hl HV.out)); (exact rfl); (exact rfl); (exact Try.underlying9); (exact hkl)))
          go_ret
          exact ⟨rfl, st⟩
    · obtain rfl : k = s.size := by omega
      have hltI : (s.size : Int) ≤ s.size := by omega
      have HNL : Hid (R = (decide (1 ≤ s.size) && decide (s.size ≤ 12))) := Lib.hid (by
        have h1 := HB1.out
        rw [List.take_of_length_le (by have := HS.out; omega)] at h1
        rw [HR.out, nameL, h1, HS.out, Bool.and_true])
      by_cases a1 : 1 ≤ s.size
      · by_cases a2 : s.size ≤ 12
        · obtain rfl : R = true := by rw [HNL.out]; simp [a1, a2]
          have b1 : 1 ≤ (s.size : Int) := by omega
          have b2 : (s.size : Int) ≤ 12 := by omega
          go_wp2_with fail
          go_ret
          exact ⟨rfl, st⟩
        · obtain rfl : R = false := by rw [HNL.out]; simp [a2]
          have b1 : 1 ≤ (s.size : Int) := by omega
          have b2 : 12 < (s.size : Int) := by omega
          go_wp2_with fail
          go_ret
          first
            | exact ⟨rfl, st⟩
            | exact ⟨by simp; omega, st⟩
      · obtain rfl : R = false := by rw [HNL.out]; simp [a1]
        have b1 : (s.size : Int) < 1 := by omega
        go_wp2_with fail
        go_ret
        exact ⟨rfl, st⟩
theorem rVersion_calls (n : Int) (w : World) : Calls Try.prog 81 #[.int .i64 n] w fun e w' => e = .returned (.bool (verB n)) ∧ Step nowhere w w' := by
  by_cases h1 : 1 ≤ n
  · by_cases h2 : n ≤ 1073741824
    · have e : verB n = true := by simp [verB, h1, h2]
      rw [e]
      clear e
      go_enter Try.func81, Try.ntmps81
      go_wp2_with fail
      go_ret
      exact ⟨rfl, stepN⟩
    · have e : verB n = false := by simp [verB, h2]
      rw [e]
      clear e
      go_enter Try.func81, Try.ntmps81
      go_wp2_with fail
      go_ret
      exact ⟨rfl, stepN⟩
  · have e : verB n = false := by simp [verB, h1]
    rw [e]
    clear e
    go_enter Try.func81, Try.ntmps81
    go_wp2_with fail
    go_ret
    exact ⟨rfl, stepN⟩
instance elemWxI : ElemT Try.prog 89 3 1 8 (.int .i64 0) := ⟨⟨Try.underlying89, by kernel_rfl, rfl, by decide⟩⟩
def allNum (l : List Int) : Bool := l.all numB
theorem allNum_take (l : List Int) (k : Nat) (h : k < l.length) : allNum (l.take (k + 1)) = (allNum (l.take k) && numB (iget l k)) := by
  unfold allNum
  rw [List.take_succ_eq_append_getElem h, List.all_append]
  simp [iget, List.getD_eq_getElem?_getD, h]
theorem allNum_no (l : List Int) (k : Nat) (h : k < l.length) (hb : numB (iget l k) = false) : allNum l = false := by
  unfold allNum
  rw [List.all_eq_false]
  refine ⟨l[k], List.getElem_mem h, ?_⟩
  have e : iget l k = l[k] := by simp [iget, List.getD_eq_getElem?_getD, h]
  rw [e] at hb
  simp [hb]
set_option maxRecDepth 100000 in
set_option maxHeartbeats 800000 in
theorem rNum_calls {A : Option Addr} {n c : Nat} {l : List Int} {w : World} [hr : HR w A (i64l l)] (hl : l.length = n) (hmax : n ≤ 9223372036854775807) :
    Calls Try.prog 82 #[.slice A n c] w fun e w' => e = .returned (.bool (allNum l)) ∧ Step nowhere w w' := by
  obtain ⟨R, hR⟩ : ∃ R, R = allNum l := ⟨_, rfl⟩
  have HR1 := Lib.hid hR
  rw [← hR]
  clear hR
  go_enter Try.func82, Try.ntmps82
  go_wp2_with fail
  go_loopw [3] (fun iv wr => ∃ k : Nat, k ≤ n ∧ iv = .int .i64 (k : Int) ∧ Nw w wr ∧ HR wr A (i64l l) ∧ Hid (allNum (l.take k) = true)) (fun iv _ => n - (intOf iv).toNat)
  case atStart => exact ⟨0, Nat.zero_le _, rfl, inferInstance, inferInstance, Lib.hid rfl⟩
  case round =>
    obtain ⟨k, hk, rfl, _, _, HB1⟩ := hrel
    have st : Step nowhere w wr := ⟨(inferInstance : Nw w wr).out⟩
    by_cases hkn : k < n
    · have hltI : (k : Int) < n := by omega
      have hkl : k < l.length := by omega
      obtain ⟨v, hv⟩ : ∃ v, v = iget l k := ⟨_, rfl⟩
      have hall := allNum_take l k hkl
      have HV := Lib.hid hv
      by_cases h1 : 0 ≤ v
      · by_cases h2 : v ≤ 1073741824
        · have HB2 : Hid (allNum (l.take (k + 1)) = true) := Lib.hid (by rw [hall, HB1.out, ← hv]; simp [numB, h1, h2])
          rw [hv] at h1 h2
          clear hall hv
          go_wp2_with (first | ((with_reducible apply (wpl_guard (op := .binOp _ _ _ _ _))); (exact rfl)) | ((with_reducible apply wpl_ltI); (exact rfl); (first | (exact decide_eq_true (by omega)) | (exact decide_eq_false (by omega)))) | ((with_reducible apply wpl_gtI); (exact rfl); (first | (exact decide_eq_true (by omega)) | (exact decide_eq_false (by omega)))) | ((with_reducible apply (wpl_guard (op := .load _ _))); (exact rfl)) | ((with_reducible apply (wpl_guard (op := .indexAddr _ _ _))); (exact rfl)) | ((with_reducible apply wpl_indexI); (exact rfl); (exact rfl); infer_instance; infer_instance; (exact hl); (exact hkn)) | ((with_reducible apply wpl_loadI); (exact rfl); infer_instance; infer_instance; (exact hkl)))
          exact ⟨⟨k + 1, by omega, by go_num, inferInstance, inferInstance, HB2⟩, by simp [intOf]; omega⟩
        · have HF : Hid (R = false) := Lib.hid (by rw [HR1.out, allNum_no l k hkl (by rw [← hv]; simp [numB, h2])])
          obtain rfl : R = false := HF.out
          rw [hv] at h1 h2
          clear hall hv
          go_wp2_with (first | ((with_reducible apply (wpl_guard (op := .binOp _ _ _ _ _))); (exact rfl)) | ((with_reducible apply wpl_ltI); (exact rfl); (first | (exact decide_eq_true (by omega)) | (exact decide_eq_false (by omega)))) | ((with_reducible apply wpl_gtI); (exact rfl); (first | (exact decide_eq_true (by omega)) | (exact decide_eq_false (by omega)))) | ((with_reducible apply (wpl_guard (op := .load _ _))); (exact rfl)) | ((with_reducible apply (wpl_guard (op := .indexAddr _ _ _))); (exact rfl)) | ((with_reducible apply wpl_indexI); (exact rfl); (exact rfl); infer_instance; infer_instance; (exact hl); (exact hkn)) | ((with_reducible apply wpl_loadI); (exact rfl); infer_instance; infer_instance; (exact hkl)))
          go_ret
          exact ⟨rfl, st⟩
      · have HF : Hid (R = false) := Lib.hid (by rw [HR1.out, allNum_no l k hkl (by rw [← hv]; simp [numB, h1])])
        obtain rfl : R = false := HF.out
        rw [hv] at h1
        clear hall hv
        go_wp2_with (first | ((with_reducible apply wpl_ltI); (exact rfl); (first | (exact decide_eq_true (by omega)) | (exact decide_eq_false (by omega)))) | ((with_reducible apply wpl_indexI); (exact rfl); (exact rfl); infer_instance; infer_instance; (exact hl); (exact hkn)) | ((with_reducible apply wpl_loadI); (exact rfl); infer_instance; infer_instance; (exact hkl)))
        go_ret
        exact ⟨rfl, st⟩
    · obtain rfl : k = n := by omega
      have HF : Hid (R = true) := Lib.hid (by
        have h1 := HB1.out
        rw [List.take_of_length_le (by omega)] at h1
        rw [HR1.out, h1])
      obtain rfl : R = true := HF.out
      have hltI : ¬ (k : Int) < k := by omega
      go_wp2_with fail
      go_ret
      exact ⟨rfl, st⟩
end Go.Proofs.Ythcleccofccbdaa
end
section
open Go Go.RowKit
namespace Go.Proofs.Ythcleccofccbdaa
theorem HR.ints1 {w : World} {z : Nat} {t : TypeId} {a : Int} (h : HB w z t #[.int .i64 a]) : HR w (some ⟨z, 0, none⟩) (i64l [a]) := ⟨h.rdL⟩
theorem allNum1 (a : Int) : allNum [a] = numB a := by simp [allNum]
end Go.Proofs.Ythcleccofccbdaa
end
section
open Go Go.RowKit
namespace Go.Proofs.Ythcleccofccbdaa
section
variable {P : Program} {ops : Array Oper} {a : Act} {w : World} {dst : Option Tmp} {ty : TypeId} {pos : String} {after : Array Edge} {gd : Option (Nat × Bool)}
end
theorem run_int4 (a b c d : Int) (w : World) : (Instr.buildSlice 89 4 #[(0, .int .i64 a), (1, .int .i64 b), (2, .int .i64 c), (3, .int .i64 d)]).run Try.prog w = .ok (.slice (some ⟨w.heap.size, 0, none⟩) 4 4) (w.alloc (.cells #[.int .i64 a, .int .i64 b, .int .i64 c, .int .i64 d] 3)) := by kernel_rfl
end Go.Proofs.Ythcleccofccbdaa
end
section
open Go Go.RowKit
namespace Go.Proofs.Ythcleccofccbdaa
instance (priority := 600) Sub.grewW (w0 w : World) (A A' : Option Addr) (T : Nat → Prop) [g : Grew w A A'] [s : Sub w0 (rowOf A) T] [n : SzLe w0 w] : Sub w0 (rowOf A') T := ⟨fun x hx ⟨ad, e, hk⟩ => by
  rcases g.out with h1 | h1
  · exact s.out x hx ⟨ad, by rw [← h1]; exact e, hk⟩
  · have h2 := n.out
    rw [h1] at e
    injection e with e
    subst e
    have h3 : w.heap.size = x := hk
    omega⟩
set_option maxRecDepth 100000 in
theorem rText_calls (s : ByteArray) (l : List UInt8) (hl : s.data.toList = l) (hx : l.length ≤ 1000000000) (w : World) :
    Calls Try.prog 62 #[.string s] w fun e w' => ∃ A n c, e = .returned (.slice A n c) ∧ Hid (Fresh w w' A n c (encRow l)) := by
  go_enter Try.func62, Try.ntmps62
  go_wp2_with ((with_reducible apply (wpl_strN (l := l))); (exact rfl); (exact hl); (exact Try.underlying9); (exact Try.underlying28); (exact Try.underlying5); intro cs wz _ _)
  refine (refBytes_calls (some ⟨w.heap.size, 0, none⟩) l.length cs l wz (inferInstance : HR wz (some ⟨w.heap.size, 0, none⟩) (bs l)).out rfl hx).mono ?_
  rintro e w5 ⟨A5, n5, c5, rfl, hF⟩
  have HF : Hid (Fresh w w5 A5 n5 c5 (encRow l)) := Lib.hid ⟨hF.out.own, hF.out.len, (stepN (w0 := w) (w := wz)).chg.trans hF.out.chg (fun _ _ h => h), fun ad e => Nat.le_trans (stepN (w0 := w) (w := wz)).chg.size (hF.out.new ad e)⟩
  clear hF
  go_wp2_with fail
  go_ret
  exact ⟨A5, n5, c5, rfl, HF⟩
end Go.Proofs.Ythcleccofccbdaa
end
section
open Go Go.RowKit
namespace Go.Proofs.Ythcleccofccbdaa
def flatH (l : List H32) : List UInt8 := l.flatMap (·.l)
def keyB (l : List H32) (need : Int) : List UInt8 := encAll [(l.length : Int)] ++ flatH l ++ encAll [need]
end Go.Proofs.Ythcleccofccbdaa
end
section
open Go Go.RowKit
namespace Go.Proofs.Ythcleccofccbdaa
instance cellFHash : CellT Try.prog 222 := ⟨fun _ => by kernel_rfl, fun _ => by kernel_rfl⟩
theorem FldPost.mono {w : World} {ys zs : List UInt8} {U V : Nat → Prop} (hy : ys = zs) (hU : ∀ x, U x → V x) : ∀ e w', FldPost w ys U e w' → FldPost w zs V e w' := by
  rintro e w' ⟨f, caps, T, rfl, hs, hL, hT⟩
  subst hy
  exact ⟨f, caps, T, rfl, hs, hL, fun x hx => (hT x hx).imp id (hU x)⟩
end Go.Proofs.Ythcleccofccbdaa
end
section
open Go Go.RowKit
namespace Go.Proofs.Ythcleccofccbdaa
instance cellFKeysB : CellT Try.prog 140 := ⟨fun _ => by kernel_rfl, fun _ => by kernel_rfl⟩
instance cellFKeys : CellT Try.prog 163 := ⟨fun _ => by kernel_rfl, fun _ => by kernel_rfl⟩
instance zeroKeys : ZeroT Try.prog 24 #[.slice none 0 0, .int .i64 0] := ⟨.agg #[.slice none 0 0, .int .i64 0], fun _ => by kernel_rfl, rfl⟩
/-- the blocks that keys' rows lie in -/
def usedK (K : List KR) : Nat → Prop := fun x => ∃ k ∈ K, inRow k.A k.l x
def keyOk (k : KR) : Bool := isB k.l k.need
def rootOk (v e : Int) (K : List KR) : Bool := verB v && numB e && K.all keyOk
/-- keys' bytes -/
def keysE (K : List KR) : List UInt8 := K.flatMap fun k => keyB k.l k.need
end Go.Proofs.Ythcleccofccbdaa
end
section
open Go Go.RowKit
namespace Go.Proofs.Ythcleccofccbdaa
/-- so many digests taken -/
def hS (s : RS) : Nat → RS
  | 0 => s
  | k + 1 => ((hS s k).raw 32).2
def hN (s : RS) : Nat → List H32
  | 0 => []
  | k + 1 => hN s k ++ [(hS s k).hsh]
theorem hN_len (s : RS) : ∀ k, (hN s k).length = k
  | 0 => rfl
  | k + 1 => by rw [hN, List.length_append, hN_len s k]; rfl
theorem hS_le (s : RS) : ∀ k, (hS s k).b.length ≤ s.b.length
  | 0 => Nat.le_refl _
  | k + 1 => Nat.le_trans ((hS s k).raw_l 32) (hS_le s k)
theorem flatH_snoc (l : List H32) (h : H32) : flatH (l ++ [h]) = flatH l ++ h.l := by simp [flatH]
theorem hS_back (s : RS) : ∀ k, (hS s k).e = false → s.e = false ∧ s.b = flatH (hN s k) ++ (hS s k).b
  | 0, h => ⟨h, rfl⟩
  | k + 1, h => by
    obtain ⟨h1, h2⟩ := hsh_back (s := hS s k) h
    obtain ⟨h3, h4⟩ := hS_back s k h1
    refine ⟨h3, ?_⟩
    rw [hN, flatH_snoc, List.append_assoc]
    show s.b = flatH (hN s k) ++ ((hS s k).hsh.l ++ ((hS s k).raw 32).2.b)
    rw [← h2]
    exact h4
theorem hS_mono (s : RS) (j : Nat) : ∀ k, (hS s k).e = false → j ≤ k → (hS s j).e = false
  | 0, h, hj => by
    obtain rfl : j = 0 := by omega
    exact h
  | k + 1, h, hj => by
    by_cases e : j = k + 1
    · subst e; exact h
    · exact hS_mono s j k (hsh_back (s := hS s k) h).1 (by omega)
/-- keys taken: the program's way -/
def kL (s : RS) : List H32 := if 4 < s.num.1 then [] else hN s.num.2 s.num.1
def kM (s : RS) : RS := if 4 < s.num.1 then RS.bad else hS s.num.2 s.num.1
def kD (s : RS) : Nat := (kM s).num.1
def kR (s : RS) : RS := (kM s).num.2
/-- the reference's way -/
def GotQ (s : RS) (l : List H32) (need : Nat) (s' : RS) : Prop := ∃ j, j ≤ 5 ∧ j ≤ s.num.1 ∧ (j = s.num.1 ∨ j = 5 ∨ (hS s.num.2 j).e = true) ∧ l = hN s.num.2 j ∧ need = (hS s.num.2 j).num.1 ∧ s' = (hS s.num.2 j).num.2
theorem GotQ.same {s s' : RS} {l : List H32} {need : Nat} (h : GotQ s l need s') (he : s'.e = false) (hl : l.length ≤ 4) : l = kL s ∧ need = kD s ∧ s' = kR s := by
  obtain ⟨j, h5, hn, hj, rfl, rfl, rfl⟩ := h
  have h1 := (num_back he).1
  rw [hN_len] at hl
  have e : j = s.num.1 := by
    rcases hj with h | h | h
    · exact h
    · omega
    · rw [h1] at h; cases h
  have h4 : ¬ 4 < s.num.1 := by omega
  rw [kL, kD, kR, kM, if_neg h4, if_neg h4, ← e]
  exact ⟨rfl, rfl, rfl⟩
theorem kM_e {s : RS} (h : (kR s).e = false) : (kM s).e = false := (num_back h).1
theorem kM_n {s : RS} (h : (kM s).e = false) : ¬ 4 < s.num.1 := fun h4 => by
  rw [kM, if_pos h4] at h
  cases h
theorem GotQ.prog {s s' : RS} {l : List H32} {need : Nat} (h : GotQ s l need s') (he : (kR s).e = false) : l = kL s ∧ need = kD s ∧ s' = kR s := by
  obtain ⟨j, h5, hn, hj, rfl, rfl, rfl⟩ := h
  have h1 := kM_e he
  have h4 := kM_n h1
  rw [kM, if_neg h4] at h1
  have e : j = s.num.1 := by
    rcases hj with h | h | h
    · exact h
    · omega
    · rw [hS_mono _ _ _ h1 hn] at h; cases h
  rw [kL, kD, kR, kM, if_neg h4, if_neg h4, ← e]
  exact ⟨rfl, rfl, rfl⟩
theorem key_back {s : RS} (he : (kR s).e = false) : s.e = false ∧ s.b = keyB (kL s) (kD s) ++ (kR s).b := by
  have h1 := kM_e he
  have h4 := kM_n h1
  obtain ⟨a1, a2, a3⟩ := num_back (s := kM s) he
  have e1 : kM s = hS s.num.2 s.num.1 := by rw [kM, if_neg h4]
  rw [e1] at h1
  obtain ⟨b1, b2⟩ := hS_back s.num.2 s.num.1 h1
  obtain ⟨c1, c2, c3⟩ := num_back (s := s) b1
  refine ⟨c1, ?_⟩
  have e2 : kL s = hN s.num.2 s.num.1 := by rw [kL, if_neg h4]
  have e3 : encAll [(kD s : Int)] = enc (kD s) := encN a3
  have e4 : encAll [((kL s).length : Int)] = enc s.num.1 := by rw [e2, hN_len]; exact encN c3
  rw [keyB, e4, e3, c2, List.append_assoc, List.append_assoc]
  congr 1
  rw [b2, ← e2, ← e1]
  congr 1
/-- so many keys taken -/
def kAt (s : RS) : Nat → RS
  | 0 => s
  | k + 1 => kR (kAt s k)
def kK (s : RS) : Nat → List (List H32 × Int)
  | 0 => []
  | k + 1 => kK s k ++ [(kL (kAt s k), (kD (kAt s k) : Int))]
def GotN : Nat → RS → List (List H32 × Int) → RS → Prop
  | 0, s, K, s' => K = [] ∧ s' = s
  | m + 1, s, K, s' => ∃ K' t l need, GotN m s K' t ∧ GotQ t l need s' ∧ K = K' ++ [(l, (need : Int))]
theorem GotN.same {s : RS} : ∀ (m : Nat) {K : List (List H32 × Int)} {s' : RS}, GotN m s K s' → s'.e = false → (∀ k ∈ K, k.1.length ≤ 4) → K = kK s m ∧ s' = kAt s m
  | 0, K, s', h, he, hk => h
  | m + 1, K, s', h, he, hk => by
    obtain ⟨K', t, l, need, h1, h2, rfl⟩ := h
    obtain ⟨rfl, rfl, rfl⟩ := h2.same he (hk (l, (need : Int)) (by simp))
    obtain ⟨rfl, rfl⟩ := GotN.same m h1 (key_back he).1 (fun k hk' => hk k (by simp [hk']))
    exact ⟨rfl, rfl⟩
theorem GotN.prog {s : RS} : ∀ (m : Nat) {K : List (List H32 × Int)} {s' : RS}, GotN m s K s' → (kAt s m).e = false → K = kK s m ∧ s' = kAt s m
  | 0, K, s', h, he => h
  | m + 1, K, s', h, he => by
    obtain ⟨K', t, l, need, h1, h2, rfl⟩ := h
    obtain ⟨rfl, rfl⟩ := GotN.prog m h1 (key_back he).1
    obtain ⟨rfl, rfl, rfl⟩ := h2.prog he
    exact ⟨rfl, rfl⟩
def keysB (K : List (List H32 × Int)) : List UInt8 := K.flatMap fun k => keyB k.1 k.2
def rtV (b : List UInt8) : Nat := (kindS 1 b).num.1
def rtX (b : List UInt8) : Nat := ((kindS 1 b).at 1).num.1
def rtS (b : List UInt8) : RS := (kindS 1 b).at 2
def rootB (v e : Int) (K : List (List H32 × Int)) : Bool := verB v && numB e && K.all fun k => isB k.1 k.2
/-- a root's bytes -/
def rootE (v e : Int) (K : List (List H32 × Int)) : List UInt8 := encAll [1] ++ (encAll [v, e] ++ keysB K)
def rtOk (b : List UInt8) : Bool := wholeB (kAt (rtS b) 4) && rootB (rtV b) (rtX b) (kK (rtS b) 4)
end Go.Proofs.Ythcleccofccbdaa
end
section
open Go Go.RowKit
namespace Go.Proofs.Ythcleccofccbdaa
theorem RdrAt.far {S : Nat → Prop} {w w' : World} {g d : Nat} {s : RS} {m : Nat} (h : RdrAt w g d s) (hc : Chg S w w') (hS : ∀ x, S x → m ≤ x) (hg : g < m) (hd : s.b ≠ [] → d < m) : RdrAt w' g d s :=
  h.chg2 hc (fun e => by have := hS _ e; omega) (fun hne e => by have := hS _ e; have := hd hne; omega)
theorem num_ne {s : RS} (h : s.num.2.b ≠ []) : s.b ≠ [] := fun h0 => by
  have h1 := RS.num_le s
  rw [h0] at h1
  exact h (List.eq_nil_of_length_eq_zero (by simpa using h1))
theorem newA_grew {w0 w : World} {A A' : Option Addr} (g : Grew w A A') (h : NewA w0 A) (s : w0.heap.size ≤ w.heap.size) : NewA w0 A' := ⟨fun ad e => by
  rcases g.out with k | k
  · exact h.out ad (by rw [← k]; exact e)
  · rw [k] at e
    injection e with e
    subst e
    exact s⟩
theorem newA_none (w : World) : NewA w none := ⟨fun ad e => by cases e⟩
end Go.Proofs.Ythcleccofccbdaa
end
section
open Go Go.RowKit
namespace Go.Proofs.Ythcleccofccbdaa
theorem run_ptr2R (a b : Option Addr) (w : World) : (Instr.buildSlice 225 2 #[(0, .pointer a), (1, .pointer b)]).run Try.prog w = .ok (.slice (some ⟨w.heap.size, 0, none⟩) 2 2) (w.alloc (.cells #[.pointer a, .pointer b] 167)) := by kernel_rfl
end Go.Proofs.Ythcleccofccbdaa
end
section
open Go Go.RowKit
namespace Go.Proofs.Ythcleccofccbdaa
/-- what is decoded -/
def rtM (b : List UInt8) : Int × Int × List (List H32 × Int) × Int := if rtOk b then (rtV b, rtX b, kK (rtS b) 4, 0) else (0, 0, noK.map KR.m, 2)
def DecRt (b : List UInt8) (w : World) : Ending → World → Prop := fun e w' => Step nowhere w w' ∧ ∃ v x K err, e = .returned (.tuple #[.agg (rtL v x K).toArray, .int .i64 err]) ∧ Hid (K.length = 4 ∧ (v, x, K.map KR.m, err) = rtM b) ∧ Hid (KsIn w w' K)
end Go.Proofs.Ythcleccofccbdaa
end
section
open Go Go.RowKit
namespace Go.Proofs.Ythcleccofccbdaa
end Go.Proofs.Ythcleccofccbdaa
end
section
open Go Go.RowKit
namespace Go.Proofs.Ythcleccofccbdaa
end Go.Proofs.Ythcleccofccbdaa
end
