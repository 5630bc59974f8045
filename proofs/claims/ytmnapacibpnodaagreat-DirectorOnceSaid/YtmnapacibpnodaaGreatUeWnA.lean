/- Byte, WnA -/
import Derived.Test.YtmnapacibpnodaaGreatUeBase
import Derived.Test.YtmnapacibpnodaaGreatUeHashes
import Derived.Laws.IdiomStrings
section
open Go Go.RowKit
namespace Go.Proofs.YtmnapacibpnodaaGreat
section
variable {P : Program} {ops : Array Oper} {rest : List Oper} {a : Act} {w : World} {Q : Exit → Act → World → Prop} {dst : Option Tmp} {ty : TypeId} {pos : String} {after : Array Edge} {gd : Option (Nat × Bool)}
/-- the address of a byte in a slice -/
theorem ev_indexB {t : TypeId} {x ix : Operand} {A : Option Addr} {n c k : Nat} (hx : a.eval x = .slice A n c) (hi : a.eval ix = .int .i64 (k : Int)) {e : TypeId} {bytes : Nat} {z : Value} (E : ElemT P t e 1 bytes z) {xs : List UInt8} (hr : HR w A (bs xs)) (hl : xs.length = n) (h1 : k < n) :
    (execOp a.eval ⟨dst, .indexAddr t x ix, ty, pos, after, gd⟩).run P w = .ok (.value (ptrOf A k)) w := by
  obtain ⟨ad, hA, _⟩ := hr.out.lt (by rw [bs_length, hl]; omega)
  obtain ⟨ti, hti, hz, hsz, hb⟩ := info_parts E.out.info
  show ((Instr.indexAt t (a.eval x) (a.eval ix)) >>= fun v => pure (Next.value v)).run P w = _
  rw [hx, hi, hA]
  simp [Instr.indexAt, asIntOf, run_underlying E.out.under, sizeOf, typeInfo, hti, hsz, h1, ptrOf, shift]
theorem ev_loadB {t : TypeId} {x : Operand} {A : Option Addr} {k : Nat} (hx : a.eval x = ptrOf A k) {xs : List UInt8} (hr : HR w A (bs xs)) (ht : CellT P t) (hk : k < xs.length) :
    (execOp a.eval ⟨dst, .load t x, ty, pos, after, gd⟩).run P w = .ok (.value (.int .u8 ((bget xs k).toNat : Int))) w := by
  obtain ⟨ad, b, hA, hb, hc⟩ := hr.out.byte hk
  have e : bget xs k = b := by simp [bget, List.getD_eq_getElem?_getD, hb]
  show ((Instr.loadAt t (a.eval x)) >>= fun v => pure (Next.value v)).run P w = _
  rw [hx, hA, e]
  simp [ptrOf, shift, Instr.loadAt, Instr.sureAddr, loadVar, ht.agg w, hc]
theorem wpl_indexB {t : TypeId} {x ix : Operand} {A : Option Addr} {n c k : Nat} (hx : a.eval x = .slice A n c) (hi : a.eval ix = .int .i64 (k : Int)) {e : TypeId} {bytes : Nat} {z : Value} (E : ElemT P t e 1 bytes z) {xs : List UInt8} (hr : HR w A (bs xs)) (hl : xs.length = n) (h1 : k < n)
    (h : wpList P ops Q rest (a.put dst (ptrOf A k)) w) : wpList P ops Q (⟨dst, .indexAddr t x ix, ty, pos, after, none⟩ :: rest) a w := wpl_of_run rfl (ev_indexB hx hi E hr hl h1) h
theorem wpl_loadB {t : TypeId} {x : Operand} {A : Option Addr} {k : Nat} (hx : a.eval x = ptrOf A k) {xs : List UInt8} (hr : HR w A (bs xs)) (ht : CellT P t) (hk : k < xs.length)
    (h : wpList P ops Q rest (a.put dst (.int .u8 ((bget xs k).toNat : Int))) w) : wpList P ops Q (⟨dst, .load t x, ty, pos, after, none⟩ :: rest) a w := wpl_of_run rfl (ev_loadB hx hr ht hk) h
end
theorem beqF {a b : Int} (h : ¬ a = b) : (a == b) = false := by simpa using h
theorem beqT {a b : Int} (h : a = b) : (a == b) = true := by simpa using h
end Go.Proofs.YtmnapacibpnodaaGreat
end
section
open Go Go.RowKit
namespace Go.Proofs.YtmnapacibpnodaaGreat
def goodB (b : UInt8) : Bool := (decide (97 ≤ b.toNat) && decide (b.toNat ≤ 122)) || (decide (48 ≤ b.toNat) && decide (b.toNat ≤ 57)) || decide (b.toNat = 45)
def nameL (l : List UInt8) : Bool := decide (1 ≤ l.length) && decide (l.length ≤ 12) && l.all goodB
section
variable {P : Program} {ops : Array Oper} {rest : List Oper} {a : Act} {w : World} {Q : Exit → Act → World → Prop} {dst : Option Tmp} {ty : TypeId} {pos : String} {after : Array Edge}
/-- a text's bytes, in memory of their own -/
theorem wpl_strB {src td e : TypeId} {x : Operand} {s : ByteArray} {l : List UInt8} (hx : a.eval x = .string s) (hl : s.data.toList = l) (hs : P.underlying src = some .string) (hd : P.underlying td = some (.slice e)) (he : P.underlying e = some (.int .u8))
    (h : ∀ A c w', Step nowhere w w' → HR w' A (bs l) → wpList P ops Q rest (a.put dst (.slice A l.length c)) w') : wpList P ops Q (⟨dst, .convert src td x, ty, pos, after, none⟩ :: rest) a w := by
  subst hl
  have hsz : s.size = s.data.toList.length := (Array.length_toList (xs := s.data)).symm
  refine wpl_of_run rfl ?_ (h (some ⟨w.heap.size, 0, none⟩) (grownCap w s.size 0 e) (w.drew.alloc (.cells (bytesRow s (grownCap w s.size 0 e)) e ((bytesRow s (grownCap w s.size 0 e)).size, (bytesRow s (grownCap w s.size 0 e)).size + 1))) ⟨(Chg.refl _ _).drew.alloc _⟩ ⟨?_⟩)
  · show ((convert src td (a.eval x)) >>= fun v => pure (Next.value v)).run P w = _
    rw [hx, Sem.run_bind, run_bytes_of_string w src td e s hs hd he, ← hsz]
    rfl
  · have h1 := Rd.lit w.drew (bytesRow s (grownCap w s.size 0 e)).toList e (f := ((bytesRow s (grownCap w s.size 0 e)).size, (bytesRow s (grownCap w s.size 0 e)).size + 1))
    rw [Array.toArray_toList] at h1
    intro k u hk
    refine h1 k u ?_
    have h2 : (bytesRow s (grownCap w s.size 0 e)).toList = bs s.data.toList ++ List.replicate (grownCap w s.size 0 e - s.size) (.int .u8 0) := by
      unfold bytesRow bs u8v
      rw [Array.toList_append, Array.toList_map, Array.toList_replicate]
    rw [h2, List.getElem?_append_left (List.getElem?_eq_some_iff.1 hk).1]
    exact hk
theorem wpl_loadBv {t : TypeId} {x : Operand} {A : Option Addr} {k v : Nat} {xs : List UInt8} (hv : (bget xs k).toNat = v) (hx : a.eval x = ptrOf A k) (hr : HR w A (bs xs)) (ht : CellT P t) (hk : k < xs.length)
    (h : wpList P ops Q rest (a.put dst (.int .u8 (v : Int))) w) : wpList P ops Q (⟨dst, .load t x, ty, pos, after, none⟩ :: rest) a w := by
  subst hv
  exact wpl_loadB hx hr ht hk h
end
theorem all_take (l : List UInt8) (k : Nat) (h : k < l.length) : (l.take (k + 1)).all goodB = ((l.take k).all goodB && goodB (bget l k)) := by
  rw [List.take_add_one, List.getElem?_eq_getElem h, List.all_append]
  simp [bget, List.getD_eq_getElem?_getD, h]
theorem all_no (l : List UInt8) (k : Nat) (h : k < l.length) (hb : goodB (bget l k) = false) : l.all goodB = false := by
  rw [List.all_eq_false]
  refine ⟨l[k], List.getElem_mem _, ?_⟩
  have : bget l k = l[k] := by simp [bget, List.getD_eq_getElem?_getD, h]
  rw [← this, hb]
  decide
set_option maxRecDepth 100000 in
set_option maxHeartbeats 1600000 in
theorem wname_calls (s : ByteArray) (l : List UInt8) (hs : s.data.toList = l) (w : World) :
    Calls Tryz.prog 15 #[.string s] w fun e w' => e = .returned (.bool (nameL l)) ∧ Step nowhere w w' := by
  have hsz : s.size = l.length := by rw [← hs]; exact (Array.length_toList (xs := s.data)).symm
  obtain ⟨n, hn⟩ : ∃ n, l.length = n := ⟨_, rfl⟩
  rw [hn] at hsz
  by_cases c1 : n = 0 ∨ 12 < n
  · have hb : nameL l = false := by
      unfold nameL
      rw [hn]
      rcases c1 with rfl | h
      · rfl
      · rw [decide_eq_false (by omega : ¬ n ≤ 12), Bool.and_false, Bool.false_and]
    rw [hb]
    have q : ((s.size : Int) == 0) = true ∨ (((s.size : Int) == 0) = false ∧ 12 < (s.size : Int)) := by
      rcases c1 with h | h
      · exact .inl (beqT (by omega))
      · exact .inr ⟨beqF (by omega), by omega⟩
    clear c1 hb hn hsz
    go_enter Tryz.func15, Tryz.ntmps15
    rcases q with q1 | ⟨q1, q2⟩
    all_goals
      go_wp2_with fail
      go_ret
      exact ⟨rfl, stepN⟩
  · have q1 : ((s.size : Int) == 0) = false := beqF (by omega)
    have q2 : ¬ 12 < (s.size : Int) := by omega
    have n1 : 1 ≤ n := by omega
    have n2 : n ≤ 12 := by omega
    have HN := Lib.hid hn
    have HSZ := Lib.hid hsz
    clear c1 hn hsz
    go_enter Tryz.func15, Tryz.ntmps15
    go_wp2_with (first | ((with_reducible apply (wpl_strB (l := l))); (exact rfl); (exact hs); (exact Tryz.underlying9); (exact Tryz.underlying34); (exact Tryz.underlying5); intro B cB wB _ _))
    have hln : l.length = n := HN.out
    rw [hln]
    go_loopw [16] (fun iv wr => ∃ k : Nat, k ≤ n ∧ iv = .int .i64 (k : Int) ∧ Step nowhere w wr ∧ HR wr B (bs l) ∧ Hid ((l.take k).all goodB = true)) (fun iv _ => n - (intOf iv).toNat)
    case atStart => exact ⟨0, Nat.zero_le _, rfl, stepN, inferInstance, Lib.hid rfl⟩
    case round =>
      obtain ⟨k, hk, rfl, _, _, HA⟩ := hrel
      by_cases hlt : k < n
      · have hltI : (k : Int) < n := by omega
        have hkl : k < l.length := by omega
        obtain ⟨v, hv⟩ : ∃ v, (bget l k).toNat = v := ⟨_, rfl⟩
        have hg : goodB (bget l k) = ((decide (97 ≤ v) && decide (v ≤ 122)) || (decide (48 ≤ v) && decide (v ≤ 57)) || decide (v = 45)) := by unfold goodB; rw [hv]
        have HV := Lib.hid hv
        have hcase : (goodB (bget l k) = true ∧ ((97 ≤ (v : Int) ∧ (v : Int) ≤ 122) ∨ (¬ 97 ≤ (v : Int) ∧ 48 ≤ (v : Int) ∧ (v : Int) ≤ 57) ∨ (¬ 97 ≤ (v : Int) ∧ ¬ 48 ≤ (v : Int) ∧ ((v : Int) == 45) = true))) ∨ (goodB (bget l k) = false ∧ ((97 ≤ (v : Int) ∧ ¬ (v : Int) ≤ 122 ∧ 48 ≤ (v : Int) ∧ ¬ (v : Int) ≤ 57 ∧ ((v : Int) == 45) = false) ∨ (¬ 97 ≤ (v : Int) ∧ 48 ≤ (v : Int) ∧ ¬ (v : Int) ≤ 57 ∧ ((v : Int) == 45) = false) ∨ (¬ 97 ≤ (v : Int) ∧ ¬ 48 ≤ (v : Int) ∧ ((v : Int) == 45) = false))) := by
          rw [hg]
          by_cases a1 : 97 ≤ v
          · by_cases a2 : v ≤ 122
            · exact .inl ⟨by simp [a1, a2], .inl ⟨by omega, by omega⟩⟩
            · exact .inr ⟨by simp [a1, a2]; omega, .inl ⟨by omega, by omega, by omega, by omega, beqF (by omega)⟩⟩
          · by_cases a3 : 48 ≤ v
            · by_cases a4 : v ≤ 57
              · exact .inl ⟨by simp [a3, a4], .inr (.inl ⟨by omega, by omega, by omega⟩)⟩
              · exact .inr ⟨by simp [a1, a4]; omega, .inr (.inl ⟨by omega, by omega, by omega, beqF (by omega)⟩)⟩
            · by_cases a5 : v = 45
              · exact .inl ⟨by simp [a5], .inr (.inr ⟨by omega, by omega, beqT (by omega)⟩)⟩
              · exact .inr ⟨by simp [a1, a3, a5], .inr (.inr ⟨by omega, by omega, beqF (by omega)⟩)⟩
        clear hg hv
        rcases hcase with ⟨hg, hc⟩ | ⟨hb, hc⟩
        · have HA2 := Lib.hid (show (l.take (k + 1)).all goodB = true by rw [all_take l k hkl, HA.out, hg]; rfl)
          clear hg
          rcases hc with ⟨a1, a2⟩ | ⟨a1, a2, a3⟩ | ⟨a1, a2, a3⟩
          all_goals
            go_wp2_with (first | ((with_reducible apply wpl_indexB); (exact rfl); (exact rfl); infer_instance; infer_instance; (exact hln); (exact hlt)) | ((with_reducible apply (wpl_loadBv (t := 5) HV.out)); (exact rfl); infer_instance; infer_instance; (exact hkl)))
            refine ⟨⟨k + 1, by omega, by simp, stepN, inferInstance, HA2⟩, by simp [intOf]; omega⟩
        · have hres : nameL l = false := by
            unfold nameL
            rw [all_no l k hkl hb, Bool.and_false]
          have HR1 := Lib.hid hres
          clear hb hres
          rcases hc with ⟨a1, a2, a3, a4, a5⟩ | ⟨a1, a2, a3, a5⟩ | ⟨a1, a2, a5⟩
          all_goals
            go_wp2_with (first | ((with_reducible apply wpl_indexB); (exact rfl); (exact rfl); infer_instance; infer_instance; (exact hln); (exact hlt)) | ((with_reducible apply (wpl_loadBv (t := 5) HV.out)); (exact rfl); infer_instance; infer_instance; (exact hkl)))
            go_ret
            exact ⟨congrArg (fun b => Ending.returned (.bool b)) HR1.out.symm, stepN⟩
      · obtain rfl : k = n := by omega
        have hltI : ¬ (k : Int) < k := by omega
        have hres : nameL l = true := by
          unfold nameL
          have h1 := HA.out
          rw [List.take_of_length_le (by omega)] at h1
          rw [HN.out, h1, decide_eq_true n1, decide_eq_true n2]
          rfl
        have HR1 := Lib.hid hres
        clear hres
        go_wp2_with fail
        go_ret
        exact ⟨congrArg (fun b => Ending.returned (.bool b)) HR1.out.symm, stepN⟩
end Go.Proofs.YtmnapacibpnodaaGreat
end
