/- WnA, WnB -/
import Derived.Test.YthcleccofccbdaaTwUnA
import Derived.Test.YthcleccofccbdaaTwWrB
import Derived.Laws.IdiomStrings
import Derived.Test.YthcleccofccbdaaTwWsB
section
open Go Go.RowKit
namespace Go.Proofs.Ythcleccofccbdaa
def goodB (b : UInt8) : Bool := (decide (97 ≤ b.toNat) && decide (b.toNat ≤ 122)) || (decide (48 ≤ b.toNat) && decide (b.toNat ≤ 57)) || decide (b.toNat = 45)
def nameL (l : List UInt8) : Bool := decide (1 ≤ l.length) && decide (l.length ≤ 12) && l.all goodB
section
variable {P : Program} {ops : Array Oper} {rest : List Oper} {a : Act} {w : World} {Q : Exit → Act → World → Prop} {dst : Option Tmp} {ty : TypeId} {pos : String} {after : Array Edge}
/-- a text's bytes, in memory of their own -/
theorem wpl_strB {src td e : TypeId} {x : Operand} {s : ByteArray} {l : List UInt8} (hx : a.eval x = .string s) (hl : s.data.toList = l) (hs : P.underlying src = some .string) (hd : P.underlying td = some (.slice e)) (he : P.underlying e = some (.int .u8))
    (h : ∀ A c w', Step nowhere w w' → HR w' A (bs l) → wpList P ops Q rest (a.put dst (.slice A l.length c)) w') : wpList P ops Q (⟨dst, .convert src td x, ty, pos, after, none⟩ :: rest) a w := by
  subst hl
  have hsz : s.size = s.data.toList.length := (Array.length_toList (xs := s.data)).symm
  refine wpl_of_run rfl ?_ (h (some ⟨w.heap.size, 0, none⟩) (grownCap w s.size 0 e) (w.drew.alloc (.cells (bytesRow s (grownCap w s.size 0 e)) e ((bytesRow s (grownCap w s.size 0 e)).size, (bytesRow s (grownCap w s.size 0 e)).size + 1))) ⟨(Chg.refl _ _).drew.alloc _⟩ ⟨?_⟩)
  · show ((convert src td (a.eval x)) >>= fun v => pure (Next.value v)).run P w = _
    rw [hx, Sem.run_bind, run_bytes_of_string w src td e s hs hd he, ← hsz]
    rfl
  · have h1 := Rd.lit w.drew (bytesRow s (grownCap w s.size 0 e)).toList e (f := ((bytesRow s (grownCap w s.size 0 e)).size, (bytesRow s (grownCap w s.size 0 e)).size + 1))
    rw [Array.toArray_toList] at h1
    intro k u hk
    refine h1 k u ?_
    have h2 : (bytesRow s (grownCap w s.size 0 e)).toList = bs s.data.toList ++ List.replicate (grownCap w s.size 0 e - s.size) (.int .u8 0) := by
      unfold bytesRow bs u8v
      rw [Array.toList_append, Array.toList_map, Array.toList_replicate]
    rw [h2, List.getElem?_append_left (List.getElem?_eq_some_iff.1 hk).1]
    exact hk
theorem wpl_loadBv {t : TypeId} {x : Operand} {A : Option Addr} {k v : Nat} {xs : List UInt8} (hv : (bget xs k).toNat = v) (hx : a.eval x = ptrOf A k) (hr : HR w A (bs xs)) (ht : CellT P t) (hk : k < xs.length)
    (h : wpList P ops Q rest (a.put dst (.int .u8 (v : Int))) w) : wpList P ops Q (⟨dst, .load t x, ty, pos, after, none⟩ :: rest) a w := by
  subst hv
  exact wpl_loadB hx hr ht hk h
end
theorem all_take (l : List UInt8) (k : Nat) (h : k < l.length) : (l.take (k + 1)).all goodB = ((l.take k).all goodB && goodB (bget l k)) := by
  rw [List.take_add_one, List.getElem?_eq_getElem h, List.all_append]
  simp [bget, List.getD_eq_getElem?_getD, h]
theorem all_no (l : List UInt8) (k : Nat) (h : k < l.length) (hb : goodB (bget l k) = false) : l.all goodB = false := by
  rw [List.all_eq_false]
  refine ⟨l[k], List.getElem_mem _, ?_⟩
  have : bget l k = l[k] := by simp [bget, List.getD_eq_getElem?_getD, h]
  rw [← this, hb]
  decide
set_option maxRecDepth 100000 in
set_option maxHeartbeats 1600000 in
theorem wname_calls (s : ByteArray) (l : List UInt8) (hs : s.data.toList = l) (w : World) :
    Calls Try.prog 23 #[.string s] w fun e w' => e = .returned (.bool (nameL l)) ∧ Step nowhere w w' := by
  have hsz : s.size = l.length := by rw [← hs]; exact (Array.length_toList (xs := s.data)).symm
  obtain ⟨n, hn⟩ : ∃ n, l.length = n := ⟨_, rfl⟩
  rw [hn] at hsz
  by_cases c1 : n = 0 ∨ 12 < n
  · have hb : nameL l = false := by
      unfold nameL
      rw [hn]
      rcases c1 with rfl | h
      · rfl
      · rw [decide_eq_false (by omega : ¬ n ≤ 12), Bool.and_false, Bool.false_and]
    rw [hb]
    have q : ((s.size : Int) == 0) = true ∨ (((s.size : Int) == 0) = false ∧ 12 < (s.size : Int)) := by
      rcases c1 with h | h
      · exact .inl (beqT (by omega))
      · exact .inr ⟨beqF (by omega), by omega⟩
    clear c1 hb hn hsz
    go_enter Try.func23, Try.ntmps23
    rcases q with q1 | ⟨q1, q2⟩
    all_goals
      go_wp2_with fail
      go_ret
      exact ⟨rfl, stepN⟩
  · have q1 : ((s.size : Int) == 0) = false := beqF (by omega)
    have q2 : ¬ 12 < (s.size : Int) := by omega
    have n1 : 1 ≤ n := by omega
    have n2 : n ≤ 12 := by omega
    have HN := Lib.hid hn
    have HSZ := Lib.hid hsz
    clear c1 hn hsz
    go_enter Try.func23, Try.ntmps23
    go_wp2_with (first | ((with_reducible apply (wpl_strB (l := l))); (exact rfl); (exact hs); (exact Try.underlying9); (exact Try.underlying28); (exact Try.underlying5); intro B cB wB _ _))
    have hln : l.length = n := HN.out
    rw [hln]
    go_loopw [16] (fun iv wr => ∃ k : Nat, k ≤ n ∧ iv = .int .i64 (k : Int) ∧ Step nowhere w wr ∧ HR wr B (bs l) ∧ Hid ((l.take k).all goodB = true)) (fun iv _ => n - (intOf iv).toNat)
    case atStart => exact ⟨0, Nat.zero_le _, rfl, stepN, inferInstance, Lib.hid rfl⟩
    case round =>
      obtain ⟨k, hk, rfl, _, _, HA⟩ := hrel
      by_cases hlt : k < n
      · have hltI : (k : Int) < n := by omega
        have hkl : k < l.length := by omega
        obtain ⟨v, hv⟩ : ∃ v, (bget l k).toNat = v := ⟨_, rfl⟩
        have hg : goodB (bget l k) = ((decide (97 ≤ v) && decide (v ≤ 122)) || (decide (48 ≤ v) && decide (v ≤ 57)) || decide (v = 45)) := by unfold goodB; rw [hv]
        have HV := Lib.hid hv
        have hcase : (goodB (bget l k) = true ∧ ((97 ≤ (v : Int) ∧ (v : Int) ≤ 122) ∨ (¬ 97 ≤ (v : Int) ∧ 48 ≤ (v : Int) ∧ (v : Int) ≤ 57) ∨ (¬ 97 ≤ (v : Int) ∧ ¬ 48 ≤ (v : Int) ∧ ((v : Int) == 45) = true))) ∨ (goodB (bget l k) = false ∧ ((97 ≤ (v : Int) ∧ ¬ (v : Int) ≤ 122 ∧ 48 ≤ (v : Int) ∧ ¬ (v : Int) ≤ 57 ∧ ((v : Int) == 45) = false) ∨ (¬ 97 ≤ (v : Int) ∧ 48 ≤ (v : Int) ∧ ¬ (v : Int) ≤ 57 ∧ ((v : Int) == 45) = false) ∨ (¬ 97 ≤ (v : Int) ∧ ¬ 48 ≤ (v : Int) ∧ ((v : Int) == 45) = false))) := by
          rw [hg]
          by_cases a1 : 97 ≤ v
          · by_cases a2 : v ≤ 122
            · exact .inl ⟨by simp [a1, a2], .inl ⟨by omega, by omega⟩⟩
            · exact .inr ⟨by simp [a1, a2]; omega, .inl ⟨by omega, by omega, by omega, by omega, beqF (by omega)⟩⟩
          · by_cases a3 : 48 ≤ v
            · by_cases a4 : v ≤ 57
              · exact .inl ⟨by simp [a3, a4], .inr (.inl ⟨by omega, by omega, by omega⟩)⟩
              · exact .inr ⟨by simp [a1, a4]; omega, .inr (.inl ⟨by omega, by omega, by omega, beqF (by omega)⟩)⟩
            · by_cases a5 : v = 45
              · exact .inl ⟨by simp [a5], .inr (.inr ⟨by omega, by omega, beqT (by omega)⟩)⟩
              · exact .inr ⟨by simp [a1, a3, a5], .inr (.inr ⟨by omega, by omega, beqF (by omega)⟩)⟩
        clear hg hv
        rcases hcase with ⟨hg, hc⟩ | ⟨hb, hc⟩
        · have HA2 := Lib.hid (show (l.take (k + 1)).all goodB = true by rw [all_take l k hkl, HA.out, hg]; rfl)
          clear hg
          rcases hc with ⟨a1, a2⟩ | ⟨a1, a2, a3⟩ | ⟨a1, a2, a3⟩
          all_goals
            go_wp2_with (first | go_skip | ((with_reducible apply wpl_indexB); (exact rfl); (exact rfl); infer_instance; infer_instance; (exact hln); (exact hlt)) | ((with_reducible apply (wpl_loadBv (t := 5) HV.out)); (exact rfl); infer_instance; infer_instance; (exact hkl)))
            refine ⟨⟨k + 1, by omega, by simp, stepN, inferInstance, HA2⟩, by simp [intOf]; omega⟩
        · have hres : nameL l = false := by
            unfold nameL
            rw [all_no l k hkl hb, Bool.and_false]
          have HR1 := Lib.hid hres
          clear hb hres
          rcases hc with ⟨a1, a2, a3, a4, a5⟩ | ⟨a1, a2, a3, a5⟩ | ⟨a1, a2, a5⟩
          all_goals
            go_wp2_with (first | go_skip | ((with_reducible apply wpl_indexB); (exact rfl); (exact rfl); infer_instance; infer_instance; (exact hln); (exact hlt)) | ((with_reducible apply (wpl_loadBv (t := 5) HV.out)); (exact rfl); infer_instance; infer_instance; (exact hkl)))
            go_ret
            exact ⟨congrArg (fun b => Ending.returned (.bool b)) HR1.out.symm, stepN⟩
      · obtain rfl : k = n := by omega
        have hltI : ¬ (k : Int) < k := by omega
        have hres : nameL l = true := by
          unfold nameL
          have h1 := HA.out
          rw [List.take_of_length_le (by omega)] at h1
          rw [HN.out, h1, decide_eq_true n1, decide_eq_true n2]
          rfl
        have HR1 := Lib.hid hres
        clear hres
        go_wp2_with fail
        go_ret
        exact ⟨congrArg (fun b => Ending.returned (.bool b)) HR1.out.symm, stepN⟩
end Go.Proofs.Ythcleccofccbdaa
end
section
open Go Go.RowKit
namespace Go.Proofs.Ythcleccofccbdaa
section
variable {P : Program} {ops : Array Oper} {rest : List Oper} {a : Act} {w : World} {Q : Exit → Act → World → Prop} {dst : Option Tmp} {ty : TypeId} {pos : String} {after : Array Edge}
/-- a byte of a text -/
theorem wpl_indexStr {t : TypeId} {x ix : Operand} {s : ByteArray} {l : List UInt8} {k v : Nat} (hs : s.data.toList = l) (hv : (bget l k).toNat = v) (hx : a.eval x = .string s) (hi : a.eval ix = .int .i64 (k : Int)) (hu : P.underlying t = some .string) (hk : k < l.length)
    (h : wpList P ops Q rest (a.put dst (.int .u8 (v : Int))) w) : wpList P ops Q (⟨dst, .index t x ix, ty, pos, after, none⟩ :: rest) a w :=
  wpl_of_run rfl (by
    subst hs
    have hsz : s.data.toList.length = s.size := Array.length_toList
    have h1 : (0 : Int) ≤ (k : Int) ∧ (k : Int) < s.size := by omega
    show ((Instr.index t (a.eval x) (a.eval ix)) >>= fun v => pure (Next.value v)).run P w = _
    rw [hx, hi, Sem.run_bind, run_index_string w t s .i64 (k : Int) hu, dif_pos h1]
    have e : (s[(k : Int).toNat]'(by omega)).toNat = v := by
      rw [← hv]
      have hk2 : k < s.data.size := by rw [← Array.length_toList]; exact hk
      have e1 : s[(k : Int).toNat]'(by omega) = s.data[k] := rfl
      have e2 : s.data[k]? = some s.data[k] := Array.getElem?_eq_getElem hk2
      rw [e1]
      simp only [bget, List.getD_eq_getElem?_getD, Array.getElem?_toList, e2, Option.getD_some]
    rw [e]
    rfl) h
end
theorem good_case (v : Nat) {g : Bool} (hg : g = ((decide (97 ≤ v) && decide (v ≤ 122)) || (decide (48 ≤ v) && decide (v ≤ 57)) || decide (v = 45))) :
    (g = true ∧ ((97 ≤ (v : Int) ∧ (v : Int) ≤ 122) ∨ (97 ≤ (v : Int) ∧ ¬ (v : Int) ≤ 122 ∧ False) ∨ (¬ 97 ≤ (v : Int) ∧ 48 ≤ (v : Int) ∧ (v : Int) ≤ 57) ∨ (¬ 97 ≤ (v : Int) ∧ ¬ 48 ≤ (v : Int) ∧ ((v : Int) == 45) = true))) ∨ (g = false ∧ ((97 ≤ (v : Int) ∧ ¬ (v : Int) ≤ 122 ∧ 48 ≤ (v : Int) ∧ ¬ (v : Int) ≤ 57 ∧ ((v : Int) == 45) = false) ∨ (¬ 97 ≤ (v : Int) ∧ 48 ≤ (v : Int) ∧ ¬ (v : Int) ≤ 57 ∧ ((v : Int) == 45) = false) ∨ (¬ 97 ≤ (v : Int) ∧ ¬ 48 ≤ (v : Int) ∧ ((v : Int) == 45) = false))) := by
  subst hg
  by_cases a1 : 97 ≤ v
  · by_cases a2 : v ≤ 122
    · exact .inl ⟨by simp [a1, a2], .inl ⟨by omega, by omega⟩⟩
    · exact .inr ⟨by simp [a1, a2]; omega, .inl ⟨by omega, by omega, by omega, by omega, beqF (by omega)⟩⟩
  · by_cases a3 : 48 ≤ v
    · by_cases a4 : v ≤ 57
      · exact .inl ⟨by simp [a3, a4], .inr (.inr (.inl ⟨by omega, by omega, by omega⟩))⟩
      · exact .inr ⟨by simp [a1, a4]; omega, .inr (.inl ⟨by omega, by omega, by omega, beqF (by omega)⟩)⟩
    · by_cases a5 : v = 45
      · exact .inl ⟨by simp [a5], .inr (.inr (.inr ⟨by omega, by omega, beqT (by omega)⟩))⟩
      · exact .inr ⟨by simp [a1, a3, a5], .inr (.inr ⟨by omega, by omega, beqF (by omega)⟩)⟩
theorem known36 : encAll [2] ++ (encAll [1, 0, 1] ++ zeroH.l) = 2 :: 1 :: 0 :: 1 :: List.replicate 32 0 := by
  have h0 : clampN 0 = 0 := by decide
  have h1 : clampN 1 = 1 := by decide
  have h2 : clampN 2 = 2 := by decide
  simp only [encAll, List.flatMap_cons, List.flatMap_nil, h0, h1, h2]
  rw [enc_small (n := 0) (by decide), enc_small (n := 1) (by decide), enc_small (n := 2) (by decide)]
  rfl
theorem run_tim1 (w : World) : (Instr.build 111 #[(0, .int .i64 1), (2, .int .i64 1)]).run Try.prog w = .ok (.agg (timL 1 0 1 zeroH).toArray) w := by kernel_rfl
set_option maxRecDepth 100000 in
theorem wknown_calls (w : World) : Calls Try.prog 17 #[] w fun e w' => e = .returned (.bool true) ∧ Step nowhere w w' := by
  have hb : timB 1 0 1 = true := by decide
  go_enter Try.func17, Try.ntmps17
  go_wp2_with (first | go_skip | ((with_reducible apply wpl_build); (exact run_tim1 _)) | ((with_reducible apply (wpl_guard (op := .load _ _))); (exact rfl)) | ((with_reducible apply (wpl_guard (op := .indexAddr _ _ _))); (exact rfl)) | ((with_reducible apply wpl_loadrow); (exact rfl); infer_instance; infer_instance; (first | (with_reducible assumption) | (with_reducible exact H32.size _) | kernel_rfl)) | ((with_reducible apply wpl_loadcellN); (exact rfl); infer_instance; (exact rfl)))
  refine (EncodeTime_calls 1 0 1 zeroH _).mono ?_
  rintro e w5 ⟨_, h5⟩
  rw [hb, known36] at h5
  obtain ⟨A, n, c, rfl, hn, hO, _⟩ := h5
  obtain rfl : n = 36 := hn
  obtain ⟨ad, hA, hc⟩ := hO.out.rd 0 (u8v 2) rfl
  subst hA
  rw [add_zero_spot] at hc
  have hc2 : w5.cell? ad = some (.int .u8 2) := hc
  have st : Step nowhere w w5 := stepN
  clear hc hO hb
  go_wp2_with fail
  go_ret
  exact ⟨rfl, st⟩
end Go.Proofs.Ythcleccofccbdaa
end
