/- WireNames. -/
import Derived.Test.YtecmeejbpkcgiaaWnA
import Derived.Test.YtecmeejbpkcgiaaWrD
open Go Go.RowKit
namespace Go.Proofs.Ytecmeejbpkcgiaa
section
variable {P : Program} {ops : Array Oper} {rest : List Oper} {a : Act} {w : World} {Q : Exit → Act → World → Prop} {dst : Option Tmp} {ty : TypeId} {pos : String} {after : Array Edge}
/-- a byte of a text -/
theorem wpl_indexStr {t : TypeId} {x ix : Operand} {s : ByteArray} {l : List UInt8} {k v : Nat} (hs : s.data.toList = l) (hv : (bget l k).toNat = v) (hx : a.eval x = .string s) (hi : a.eval ix = .int .i64 (k : Int)) (hu : P.underlying t = some .string) (hk : k < l.length)
    (h : wpList P ops Q rest (a.put dst (.int .u8 (v : Int))) w) : wpList P ops Q (⟨dst, .index t x ix, ty, pos, after, none⟩ :: rest) a w :=
  wpl_of_run rfl (by
    subst hs
    have hsz : s.data.toList.length = s.size := Array.length_toList
    have h1 : (0 : Int) ≤ (k : Int) ∧ (k : Int) < s.size := by omega
    show ((Instr.index t (a.eval x) (a.eval ix)) >>= fun v => pure (Next.value v)).run P w = _
    rw [hx, hi, Sem.run_bind, run_index_string w t s .i64 (k : Int) hu, dif_pos h1]
    have e : (s[(k : Int).toNat]'(by omega)).toNat = v := by
      rw [← hv]
      have hk2 : k < s.data.size := by rw [← Array.length_toList]; exact hk
      have e1 : s[(k : Int).toNat]'(by omega) = s.data[k] := rfl
      have e2 : s.data[k]? = some s.data[k] := Array.getElem?_eq_getElem hk2
      rw [e1]
      simp only [bget, List.getD_eq_getElem?_getD, Array.getElem?_toList, e2, Option.getD_some]
    rw [e]
    rfl) h
end
theorem good_case (v : Nat) {g : Bool} (hg : g = ((decide (97 ≤ v) && decide (v ≤ 122)) || (decide (48 ≤ v) && decide (v ≤ 57)) || decide (v = 45))) :
    (g = true ∧ ((97 ≤ (v : Int) ∧ (v : Int) ≤ 122) ∨ (97 ≤ (v : Int) ∧ ¬ (v : Int) ≤ 122 ∧ False) ∨ (¬ 97 ≤ (v : Int) ∧ 48 ≤ (v : Int) ∧ (v : Int) ≤ 57) ∨ (¬ 97 ≤ (v : Int) ∧ ¬ 48 ≤ (v : Int) ∧ ((v : Int) == 45) = true))) ∨ (g = false ∧ ((97 ≤ (v : Int) ∧ ¬ (v : Int) ≤ 122 ∧ 48 ≤ (v : Int) ∧ ¬ (v : Int) ≤ 57 ∧ ((v : Int) == 45) = false) ∨ (¬ 97 ≤ (v : Int) ∧ 48 ≤ (v : Int) ∧ ¬ (v : Int) ≤ 57 ∧ ((v : Int) == 45) = false) ∨ (¬ 97 ≤ (v : Int) ∧ ¬ 48 ≤ (v : Int) ∧ ((v : Int) == 45) = false))) := by
  subst hg
  by_cases a1 : 97 ≤ v
  · by_cases a2 : v ≤ 122
    · exact .inl ⟨by simp [a1, a2], .inl ⟨by omega, by omega⟩⟩
    · exact .inr ⟨by simp [a1, a2]; omega, .inl ⟨by omega, by omega, by omega, by omega, beqF (by omega)⟩⟩
  · by_cases a3 : 48 ≤ v
    · by_cases a4 : v ≤ 57
      · exact .inl ⟨by simp [a3, a4], .inr (.inr (.inl ⟨by omega, by omega, by omega⟩))⟩
      · exact .inr ⟨by simp [a1, a4]; omega, .inr (.inl ⟨by omega, by omega, by omega, beqF (by omega)⟩)⟩
    · by_cases a5 : v = 45
      · exact .inl ⟨by simp [a5], .inr (.inr (.inr ⟨by omega, by omega, beqT (by omega)⟩))⟩
      · exact .inr ⟨by simp [a1, a3, a5], .inr (.inr ⟨by omega, by omega, beqF (by omega)⟩)⟩
theorem known36 : encAll [2] ++ (encAll [1, 0, 1] ++ zeroH.l) = 2 :: 1 :: 0 :: 1 :: List.replicate 32 0 := by
  have h0 : clampN 0 = 0 := by decide
  have h1 : clampN 1 = 1 := by decide
  have h2 : clampN 2 = 2 := by decide
  simp only [encAll, List.flatMap_cons, List.flatMap_nil, h0, h1, h2]
  rw [enc_small (n := 0) (by decide), enc_small (n := 1) (by decide), enc_small (n := 2) (by decide)]
  rfl
theorem run_tim1 (w : World) : (Instr.build 45 #[(0, .int .i64 1), (2, .int .i64 1)]).run Try.prog w = .ok (.agg (timL 1 0 1 zeroH).toArray) w := by kernel_rfl
set_option maxRecDepth 100000 in
theorem wknown_calls (w : World) : Calls Try.prog 18 #[] w fun e w' => e = .returned (.bool true) ∧ Step nowhere w w' := by
  have hb : timB 1 0 1 = true := by decide
  go_enter Try.func18, Try.ntmps18
  go_wp2_with (first | go_skip | ((with_reducible apply wpl_build); (exact run_tim1 _)) | ((with_reducible apply (wpl_guard (op := .load _ _))); (exact rfl)) | ((with_reducible apply (wpl_guard (op := .indexAddr _ _ _))); (exact rfl)) | ((with_reducible apply wpl_loadrow); (exact rfl); (exact inferInstance); (exact inferInstance); (first | (with_reducible assumption) | (with_reducible exact H32.size _) | kernel_rfl)) | ((with_reducible apply wpl_loadcellN); (exact rfl); (exact inferInstance); (exact rfl)))
  refine (EncodeTime_calls 1 0 1 zeroH _).mono ?_
  rintro e w5 ⟨_, h5⟩
  rw [hb, known36] at h5
  obtain ⟨A, n, c, rfl, hn, hO, _⟩ := h5
  obtain rfl : n = 36 := hn
  obtain ⟨ad, hA, hc⟩ := hO.out.rd 0 (u8v 2) rfl
  subst hA
  rw [add_zero_spot] at hc
  have hc2 : w5.cell? ad = some (.int .u8 2) := hc
  have st : Step nowhere w w5 := stepN
  clear hc hO hb
  go_wp2_with fail
  go_ret
  exact ⟨rfl, st⟩
set_option maxRecDepth 100000 in
set_option maxHeartbeats 1600000 in
theorem wireNames_calls (s : ByteArray) (hmax : s.size ≤ 9223372036854775807) (w : World) :
    Calls Try.prog 8 #[.string s] w fun e w' => e = .returned (.bool true) ∧ Chg nowhere w w' := by
  obtain ⟨l, hl⟩ : ∃ l, s.data.toList = l := ⟨_, rfl⟩
  have hsz : l.length = s.size := by rw [← hl]; exact Array.length_toList (xs := s.data)
  by_cases c0 : 100 < s.size
  · have c1 : 100 < (s.size : Int) := by omega
    go_enter Try.func8, Try.ntmps8
    go_wp2_with fail
    go_ret
    exact ⟨rfl, Chg.refl _ _⟩
  · have c1 : ¬ 100 < (s.size : Int) := by omega
    obtain ⟨n, hn⟩ : ∃ n, n = s.size := ⟨_, rfl⟩
    have hlen : (decide (1 ≤ l.length) && decide (l.length ≤ 12)) = (decide (1 ≤ n) && decide (n ≤ 12)) := by rw [hsz, hn]
    obtain ⟨q, hq⟩ : ∃ q, q = (decide (1 ≤ n) && decide (n ≤ 12)) := ⟨_, rfl⟩
    have HQ : Hid ((decide (1 ≤ l.length) && decide (l.length ≤ 12)) = q) := Lib.hid (by rw [hlen, hq])
    have HS := Lib.hid hsz
    have HN := Lib.hid hn
    have hqc : (q = true ∧ 1 ≤ (s.size : Int) ∧ (s.size : Int) ≤ 12) ∨ (q = false ∧ ¬ 1 ≤ (s.size : Int)) ∨ (q = false ∧ 1 ≤ (s.size : Int) ∧ ¬ (s.size : Int) ≤ 12) := by
      rw [hn] at hq
      by_cases a1 : 1 ≤ s.size
      · by_cases a2 : s.size ≤ 12
        · exact .inl ⟨by rw [hq]; simp [a1, a2], by omega, by omega⟩
        · exact .inr (.inr ⟨by rw [hq]; simp [a2], by omega, by omega⟩)
      · exact .inr (.inl ⟨by rw [hq]; simp [a1], by omega⟩)
    clear hlen hq hsz hn c0
    rcases hqc with ⟨rfl, a1, a2⟩ | ⟨rfl, a1⟩ | ⟨rfl, a1, a2⟩
    all_goals
      go_enter Try.func8, Try.ntmps8
      go_wp2_with fail
      go_loopw [3, 4] (fun bv iv wr => ∃ (k : Nat) (b : Bool), k ≤ s.size ∧ iv = .int .i64 (k : Int) ∧ bv = .bool b ∧ Step nowhere w wr ∧ Hid (b = (((decide (1 ≤ l.length) && decide (l.length ≤ 12))) && (l.take k).all goodB))) (fun _ iv _ => s.size - (intOf iv).toNat)
      case atStart => exact ⟨0, _, Nat.zero_le _, rfl, rfl, stepN, Lib.hid (by rw [HQ.out]; simp)⟩
      case round =>
        obtain ⟨k, b, hk, rfl, rfl, _, HB1⟩ := hrel
        have st : Step nowhere w wr := inferInstance
        by_cases hlt : k < s.size
        · have hltI : (k : Int) < s.size := by omega
          have hkl : k < l.length := by have := HS.out; omega
          obtain ⟨v, hv⟩ : ∃ v, (bget l k).toNat = v := ⟨_, rfl⟩
          have hg : goodB (bget l k) = ((decide (97 ≤ v) && decide (v ≤ 122)) || (decide (48 ≤ v) && decide (v ≤ 57)) || decide (v = 45)) := by unfold goodB; rw [hv]
          have hcase := good_case v hg
          have hall := all_take l k hkl
          have HV := Lib.hid hv
          clear hv hg
          cases b with
          | false =>
            have HB2 : Hid (false = (((decide (1 ≤ l.length) && decide (l.length ≤ 12))) && (l.take (k + 1)).all goodB)) := Lib.hid (by rw [hall, ← Bool.and_assoc, ← HB1.out]; simp)
            clear hcase hall
            go_wp2_with fail
            exact ⟨⟨k + 1, false, by omega, by go_num, rfl, st, HB2⟩, by simp [intOf]; omega⟩
          | true =>
            rcases hcase with ⟨hg, hc⟩ | ⟨hg, hc⟩
            · have HB2 : Hid (true = (((decide (1 ≤ l.length) && decide (l.length ≤ 12))) && (l.take (k + 1)).all goodB)) := Lib.hid (by rw [hall, ← Bool.and_assoc, ← HB1.out, hg]; rfl)
              clear hg hall
              rcases hc with ⟨b1, b2⟩ | ⟨_, _, h⟩ | ⟨b1, b2, b3⟩ | ⟨b1, b2, b3⟩
              rotate_left 1
              · exact h.elim
              all_goals
                go_wp2_with (first | go_skip | ((with_reducible apply (wpl_guard (op := .index _ _ _))); (exact rfl)) | ((with_reducible apply (wpl_indexStr hl HV.out)); (exact rfl); (exact rfl); (exact Try.underlying9); (exact hkl)))
                exact ⟨⟨k + 1, true, by omega, by go_num, rfl, st, HB2⟩, by simp [intOf]; omega⟩
            · have HB2 : Hid (false = (((decide (1 ≤ l.length) && decide (l.length ≤ 12))) && (l.take (k + 1)).all goodB)) := Lib.hid (by rw [hall, ← Bool.and_assoc, ← HB1.out, hg]; rfl)
              clear hg hall
              rcases hc with ⟨b1, b2, b3, b4, b5⟩ | ⟨b1, b2, b3, b4⟩ | ⟨b1, b2, b3⟩
              all_goals
                go_wp2_with (first | go_skip | ((with_reducible apply (wpl_guard (op := .index _ _ _))); (exact rfl)) | ((with_reducible apply (wpl_indexStr hl HV.out)); (exact rfl); (exact rfl); (exact Try.underlying9); (exact hkl)))
                exact ⟨⟨k + 1, false, by omega, by go_num, rfl, st, HB2⟩, by simp [intOf]; omega⟩
        · obtain rfl : k = s.size := by omega
          have hltI : (s.size : Int) ≤ s.size := by omega
          have HNL : Hid (nameL l = b) := Lib.hid (by
            unfold nameL
            rw [HB1.out, List.take_of_length_le (by have := HS.out; omega)])
          go_wp2_with fail
          refine (name_calls s l hl _).mono ?_
          rw [HNL.out]
          rintro e w5 ⟨rfl, s5⟩
          have st5 : Step nowhere w w5 := ⟨st.chg.trans s5.chg (fun _ _ h => h)⟩
          clear s5
          go_wp2_with fail
          refine (wknown_calls _).mono ?_
          rintro e w6 ⟨rfl, s6⟩
          go_wp2_with fail
          go_ret
          exact ⟨rfl, st5.chg.trans s6.chg (fun _ _ h => h)⟩
end Go.Proofs.Ytecmeejbpkcgiaa
