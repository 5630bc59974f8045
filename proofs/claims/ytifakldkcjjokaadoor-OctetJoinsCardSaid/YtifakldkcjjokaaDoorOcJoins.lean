/- Rows joined in two parts, and these joined, are all of them joined (the law OctetJoins). -/
import Derived.Test.YtifakldkcjjokaaDoorOcSums
import Derived.Test.YtifakldkcjjokaaDoorRoom
open Go Go.RowKit
namespace Go.Proofs.YtifakldkcjjokaaDoor
theorem Room.chg {S : Nat → Prop} {w w' : World} {A : Option Addr} {n c : Nat} {xs : List UInt8} (h : Room w A n c xs) (hc : Chg S w w') (hS : ∀ ad, A = some ad → ¬ S ad.block) : Room w' A n c xs := by
  refine ⟨h.len, h.le, h.max, ?_⟩
  rcases h.at_ with h0 | ⟨g, zs, rfl, h1, h2, h3, h4⟩
  · exact .inl h0
  · refine .inr ⟨g, zs, rfl, h1, h2, h3.chg hc (fun _ ad e => hS ad e), fun i hi => ?_⟩
    have hg : g < w.heap.size := by
      obtain ⟨ad, e, hl⟩ := h3.lt (by rw [bs_length]; omega)
      injection e with e
      subst e
      exact hl
    rw [World.frozen?_of_block (a := ⟨g, i, Option.none⟩) (hc.block g hg (hS _ rfl))]
    exact h4 i hi
theorem Room.set {w : World} {A : Option Addr} {n c : Nat} {xs : List UInt8} (h : Room w A n c xs) (i : Nat) (hi : i < n) (y : UInt8) : ∃ g x, A = some ⟨g, 0, Option.none⟩ ∧ w.cell? ⟨g, i, Option.none⟩ = some (.int .u8 x) ∧ w.frozen? ⟨g, i, Option.none⟩ = false ∧
    Room (w.setCell ⟨g, i, Option.none⟩ (u8v y)) A n c (xs.set i y) := by
  have hlen := h.len
  have hle := h.le
  rcases h.at_ with ⟨_, h0⟩ | ⟨g, zs, rfl, h1, h2, h3, h4⟩
  · omega
  have hcz : ∀ j (hj : j < zs.length), w.cell? ⟨g, j, Option.none⟩ = some (u8v zs[j]) := fun j hj => by
    obtain ⟨ad, h1, h2⟩ := h3 j (u8v zs[j]) (by simp [bs, hj])
    injection h1 with h1
    subst h1
    rwa [add_row] at h2
  have hiz : i < zs.length := by omega
  have hcell := hcz i hiz
  refine ⟨g, _, rfl, hcell, h4 i (by omega), by simp [hlen], hle, h.max, .inr ⟨g, zs.set i y, rfl, by simp [h1], ?_, ?_, ?_⟩⟩
  · rw [List.take_set, h2]
  · intro k u hk
    refine ⟨_, rfl, ?_⟩
    rw [add_row]
    have hk' : k < zs.length := by simpa [bs] using (List.getElem?_eq_some_iff.1 hk).1
    simp only [bs, List.getElem?_map] at hk
    rw [List.getElem?_set] at hk
    by_cases hkn : i = k
    · subst hkn
      rw [if_pos rfl, if_pos hk'] at hk
      simp at hk
      subst hk
      exact World.cell?_setCell_same w _ _ hcell
    · rw [if_neg hkn, List.getElem?_eq_getElem hk'] at hk
      simp at hk
      subst hk
      rw [World.cell?_setCell_other w _ _ _ (fun e => hkn (congrArg Addr.off e))]
      exact hcz k hk'
  · intro j hj
    rw [World.frozen?_setCell]
    exact h4 j hj
theorem wpList_append_room {P : Program} {w : World} {t e : TypeId} {ops : Array Oper} {rest : List Oper} {o : Oper} {a : Act} {Q : Exit → Act → World → Prop} (hgd : o.guard = none) (s x : Operand) (E : Elem P t e 1 1 (.int .u8 0))
    (ho : o.op = .call { callee := .builtin .append, args := #[s, x], argTypes := #[t, t] })
    {A : Option Addr} {n c : Nat} {xs : List UInt8} (hs : a.eval s = .slice A n c) (hR : Room w A n c xs)
    {ad : Addr} {c2 : Nat} {y : UInt8} (hx : a.eval x = .slice (some ad) 1 c2) (hc : w.cell? ad = some (u8v y)) (hb : Hid (n ≤ 100000000000))
    (h : ∀ A' c' w', Room w' A' (n + 1) c' (xs ++ [y]) → Chg (fun k => ∃ ad, A = some ad ∧ ad.block = k) w w' → (A' = A ∨ A' = some ⟨w.heap.size, 0, none⟩) → wpList P ops Q rest (a.put o.dst (.slice A' (n + 1) c')) w') : wpList P ops Q (o :: rest) a w := by
  obtain ⟨A', c', w', hrun, h1, h2, h3⟩ := run_append_room (P := P) E o.type hR (c2 := c2) hc hb.out
  exact wpList_append_run hgd s x ho hs hx hrun (h A' c' w' h1 h2 h3)
theorem Room.alloc {w : World} {A : Option Addr} {n c : Nat} {xs : List UInt8} (h : Room w A n c xs) (o : Obj) : Room (w.alloc o) A n c xs := by
  refine ⟨h.len, h.le, h.max, ?_⟩
  rcases h.at_ with h0 | ⟨g, zs, rfl, h1, h2, h3, h4⟩
  · exact .inl h0
  · refine .inr ⟨g, zs, rfl, h1, h2, h3.alloc o, fun i hi => ?_⟩
    have hg : g < w.heap.size := by
      obtain ⟨ad, e, hl⟩ := h3.lt (by rw [bs_length]; omega)
      injection e with e
      subst e
      exact hl
    rw [World.frozen?_of_block (a := ⟨g, i, Option.none⟩) (Below.heap_alloc w o g hg)]
    exact h4 i hi
set_option maxRecDepth 100000 in
set_option maxHeartbeats 400000 in
theorem spoilRoom_calls (A : Option Addr) (n c : Nat) (xs : List UInt8) (w : World) (hR : Room w A n c xs) (hx : n ≤ 1000000000) :
    Calls Tryd.prog 16 #[.slice A n c] w fun e w' => e = .returned (.tuple #[]) ∧ Hid (Chg (fun k => ∃ ad, A = some ad ∧ ad.block = k) w w') := by
  have HR1 := Lib.hid (hR.alloc (.cells #[.int .u8 99] 5))
  have HX := Lib.hid hx
  have HB : Hid (n ≤ 100000000000) := Lib.hid (by omega)
  have hn9 : n ≤ 9223372036854775806 := by omega
  have hcell := Lib.hid (show (w.alloc (.cells #[.int .u8 99] 5)).cell? ⟨w.heap.size, 0, none⟩ = some (u8v 99) from (Blk.new w 5 #[.int .u8 99]).cell 0)
  clear hx
  go_enter Tryd.func16, Tryd.ntmps16
  go_wp2_with (at_builtin; refine wpList_append_room rfl (.tmp 4) (.tmp 5) elemB rfl rfl HR1.out rfl (y := 99) hcell.out HB ?_)
  intro A2 c2 w2 hR2 hchg2 hA2
  have HR2 := Lib.hid hR2
  have HC := Lib.hid ((((Chg.refl nowhere w).alloc (.cells #[.int .u8 99] 5)).mono (fun _ _ h => h.elim)).trans (S := fun k => ∃ ad, A = some ad ∧ ad.block = k) hchg2 (fun _ _ h => h))
  have hS : Hid (∀ ad, A2 = some ad → ad.block < w.heap.size → ∃ ad', A = some ad' ∧ ad'.block = ad.block) := Lib.hid (by
    intro ad e hl
    rcases hA2 with h | h
    · exact ⟨ad, by rw [← h]; exact e, rfl⟩
    · rw [e] at h
      injection h with h
      subst h
      simp at hl
      omega)
  clear hR2 hchg2 hA2 hR
  go_wp2_with fail
  go_loopw [3] (fun t wr => ∃ (k : Nat) (zs : List UInt8), k ≤ n + 1 ∧ t = .int .i64 k ∧ Room wr A2 (n + 1) c2 zs ∧ Chg (fun k => ∃ ad, A = some ad ∧ ad.block = k) w wr) (fun t _ => n + 1 - (intOf t).toNat)
  case atStart => exact ⟨0, _, Nat.zero_le _, rfl, HR2.out, HC.out⟩
  case round =>
    obtain ⟨k, zs, hk, rfl, hr, hc⟩ := hrel
    by_cases hlt : k < n + 1
    · have e1 : (k : Int) < n + 1 := by omega
      obtain ⟨g, x, rfl, hc0, hf0, hr'⟩ := hr.set k hlt 98
      have HB := Lib.hid hr'
      have HC2 := Lib.hid (hc.setCell (p := ⟨g, k, none⟩) (fun h => hS.out ⟨g, 0, none⟩ rfl h) (u8v 98))
      clear hr hc hr'
      go_wp2_with fail
      exact ⟨⟨k + 1, _, by omega, by go_num, HB.out, HC2.out⟩, by simp [intOf]; omega⟩
    · have e1 : ((n : Int) + 1) ≤ k := by omega
      have HC2 := Lib.hid hc
      clear hr hc
      go_wp2_with fail
      go_end0
      exact ⟨rfl, HC2.out⟩
theorem elemR : Elem Tryd.prog 36 23 1 24 (.slice none 0 0) := ⟨Tryd.underlying36, by kernel_rfl, rfl, by omega⟩
theorem rowsV_one (l : List Row) : ∀ u ∈ rowsV l, u.oneCell' = true := by
  intro u hu
  obtain ⟨b, _, rfl⟩ := List.mem_map.1 hu
  rfl
theorem wpList_append_rows {P : Program} {w : World} {t e : TypeId} {z : Value} {ops : Array Oper} {rest : List Oper} {o : Oper} {a : Act} {Q : Exit → Act → World → Prop} (hgd : o.guard = none) (s x : Operand) {bytes : Nat} (E : Elem P t e 1 bytes z)
    (ho : o.op = .call { callee := .builtin .append, args := #[s, x], argTypes := #[t, t] }) (hby : bytes ≤ 64)
    {A : Option Addr} {n c : Nat} {xs : List Value} (hs : a.eval s = .slice A n c) (hown : Own w e 1 A n c xs)
    {A2 : Option Addr} {m c2 : Nat} {vs : List Value} (hx : a.eval x = .slice A2 m c2) (hr : Rd w A2 vs) (hl : Hid (vs.length = m)) (h1 : ∀ u ∈ vs, u.oneCell' = true) (hb : Hid (n + m ≤ 1000000000000))
    (h : ∀ A' c' w', Own w' e 1 A' (n + m) c' (xs ++ vs) → Chg (fun k => ∃ ad, A = some ad ∧ ad.block = k) w w' → (A' = A ∨ A' = some ⟨w.heap.size, 0, none⟩) → wpList P ops Q rest (a.put o.dst (.slice A' (n + m) c')) w') : wpList P ops Q (o :: rest) a w :=
  wpList_append_Own hgd s x E ho hs hown hx hr (by rw [hl.out, Nat.mul_one]) h1 (by have := hb.out; unfold maxLen; omega)
    (by have := hb.out; have := Nat.mul_le_mul_left (n + m) hby; omega) (fun e => by
      subst e
      have := hl.out
      rcases vs with _ | ⟨v, vs⟩
      · simpa using this.symm
      · obtain ⟨ad, h, _⟩ := hr 0 v rfl
        cases h) h
theorem rowsV_append (a b : List Row) : rowsV a ++ rowsV b = rowsV (a ++ b) := List.map_append.symm
theorem joined_append (a b : List Row) : joined (a ++ b) = joined a ++ joined b := by simp [joined]
theorem joined_split (l : List Row) (k : Nat) : joined l = joined (l.take k) ++ joined (l.drop k) := by rw [← joined_append, List.take_append_drop]
def lenSum (l : List Row) : Nat := (joined l).length
theorem lenSum_snoc (l : List Row) (k : Nat) (h : k < l.length) : lenSum (l.take (k + 1)) = lenSum (l.take k) + l[k].p.length := by
  unfold lenSum
  rw [joined_snoc l k h, List.length_append]
theorem lenSum_le (l : List Row) (k : Nat) : lenSum (l.take k) ≤ lenSum l := by
  unfold lenSum
  rw [joined_split l k, List.length_append]
  omega
set_option maxRecDepth 100000 in
set_option maxHeartbeats 800000 in
theorem octetJoins_calls (A B : Option Addr) (n c m d : Nat) (l k : List Row) (w : World) (hT : TabOk w) (hr : Rd w A (rowsV l)) (hn : l.length = n) (hcap : n ≤ c) (hmax : n ≤ 9223372036854775807) (hrow : RowsOk w l) (hrl : ∀ r ∈ l, r.p.length ≤ 9223372036854775807)
    (hr2 : Rd w B (rowsV k)) (hn2 : k.length = m) (hcap2 : m ≤ d) (hmax2 : m ≤ 9223372036854775807) (hrow2 : RowsOk w k) (hrl2 : ∀ r ∈ k, r.p.length ≤ 9223372036854775807) :
    Calls Tryd.prog 10 #[.slice A n c, .slice B m d] w fun e w' => e = .returned (.bool true) ∧ Chg nowhere w w' := by
  have HT := Lib.hid hT
  have HR := Lib.hid hr
  have HN := Lib.hid hn
  have HRL := Lib.hid hrl
  have HROW := Lib.hid hrow
  have HR' := Lib.hid hr2
  have HN' := Lib.hid hn2
  have HRL' := Lib.hid hrl2
  have HROW' := Lib.hid hrow2
  clear hT hr hn hrl hrow hr2 hn2 hrl2 hrow2
  go_enter Tryd.func10, Tryd.ntmps10
  go_wp2_with fail
  refine (heavyRows_calls A n c l _ HR.out HN.out hmax HRL.out).mono ?_
  rintro e w1 ⟨⟨b, rfl, hb⟩, rfl⟩
  rcases b with _ | _
  · have hheavy := hb.out rfl
    have HH := Lib.hid hheavy
    clear hb hheavy
    go_wp2_with fail
    refine (heavyRows_calls B m d k _ HR'.out HN'.out hmax2 HRL'.out).mono ?_
    rintro e w2 ⟨⟨b, rfl, hb2⟩, rfl⟩
    rcases b with _ | _
    · have hheavy := HH.out
      have hheavy2 := hb2.out rfl
      have hsz := rowsSize_heavy l
      have hsz2 := rowsSize_heavy k
      have hlen3 := heavySum_len l
      have hlen32 := heavySum_len k
      have hn4 : n ≤ 4000 := by have := HN.out; omega
      have hm4 : m ≤ 4000 := by have := HN'.out; omega
      have HSZ : Hid (rowsSize l ≤ 16000 ∧ rowsSize k ≤ 16000) := Lib.hid (by omega)
      have HSA : Hid (rowsSize (l ++ k) ≤ 32000) := Lib.hid (by rw [rowsSize_append]; omega)
      have HJ : Hid ((joined l).length ≤ 4000 ∧ (joined k).length ≤ 4000) := Lib.hid (by
        have h1 := joined_len l
        have h2 := joined_len k
        omega)
      clear hheavy hsz hlen3 hb2 hheavy2 hsz2 hlen32
      have HM1 : Hid ((rowsV l).length = n) := Lib.hid (by rw [rowsV, List.length_map, HN.out])
      have HM2 : Hid ((rowsV k).length = m) := Lib.hid (by rw [rowsV, List.length_map, HN'.out])
      have HB1 : Hid (0 + n ≤ 1000000000000) := Lib.hid (by omega)
      have HB2 : Hid (n + m ≤ 1000000000000) := Lib.hid (by omega)
      go_wp2_with (at_builtin; refine wpList_append_rows rfl (.tmp 15) (.tmp 16) elemR rfl (by decide) rfl (Own.new _ _ 1 0 #[] (Nat.zero_le _) rfl) rfl (HR.out.alloc _) HM1 (rowsV_one l) HB1 ?_)
      intro A3 c3 w3 hown3 hchg3 hA3
      have HO3 : Hid (Own w3 23 1 A3 n c3 (rowsV l)) := Lib.hid hown3
      have HC3 : Hid (Chg nowhere w2 w3) := Lib.hid (((Chg.refl nowhere w2).alloc (.cells #[] 23)).trans hchg3 (fun x hx h => by
        have h' : w2.heap.size = x := h
        omega))
      have HG3 : Hid (∀ ad, A3 = some ad → w2.heap.size ≤ ad.block) := Lib.hid (fun ad e => by
        rcases hA3 with h | h
        · rw [e] at h
          injection h with h
          rw [h]
          exact Nat.le_refl _
        · rw [e] at h
          injection h with h
          rw [h]
          exact Nat.le_succ _)
      clear hown3 hchg3 hA3
      go_wp2_with (at_builtin; refine wpList_append_rows rfl (.tmp 17) (.tmp 18) elemR rfl (by decide) rfl HO3.out rfl (HR'.out.later HC3.out) HM2 (rowsV_one k) HB2 ?_)
      intro A4 c4 w4 hown4 hchg4 hA4
      rw [rowsV_append] at hown4
      have HO4 : Hid (Own w4 23 1 A4 (n + m) c4 (rowsV (l ++ k))) := Lib.hid hown4
      have hcap4 : n + m ≤ c4 := by rcases hown4.form with ⟨_, h, h', _⟩ | ⟨_, _, _, _, h, _⟩ <;> omega
      have HC4 : Hid (Chg nowhere w2 w4) := Lib.hid (HC3.out.step hchg4 (by
        rintro x ⟨ad, e, rfl⟩
        exact HG3.out ad e))
      have HLEN : Hid ((l ++ k).length = n + m) := Lib.hid (by rw [List.length_append, HN.out, HN'.out])
      have HROWS : Hid (∀ wz, Chg nowhere w2 wz → RowsOk wz (l ++ k)) := Lib.hid (fun wz hz r hr => by
        rcases List.mem_append.1 hr with h | h
        · exact (HROW.out r h).later hz
        · exact (HROW'.out r h).later hz)
      clear hown4 hchg4 hA4
      obtain ⟨X, hX⟩ : ∃ X, X = joined (l ++ k) := ⟨_, rfl⟩
      have HX := Lib.hid hX
      have HJX : Hid (∀ A B c d, joined [⟨A, c, joined l⟩, ⟨B, d, joined k⟩] = X) := Lib.hid (fun A B c d => by rw [hX, joined_append]; simp [joined])
      have HXL : Hid (X.length ≤ 8000) := Lib.hid (by rw [hX, joined_append, List.length_append]; have := HJ.out; omega)
      have HKN : Hid (∀ wz, Chg nowhere w2 wz → TabOk wz) := Lib.hid (fun wz h => HT.out.chg h (fun h => h))
      clear hX
      go_wp2_with fail
      refine (Join_calls A n c l _ (HR.out.later HC4.out) HN.out hcap (fun r hr => (HROW.out r hr).later HC4.out) (by have := HSZ.out; omega)).mono ?_
      rintro e w5 ⟨A5, n5, c5, rfl, h5, hc5, hg5⟩
      have HC5 := Lib.hid (HC4.out.step hc5.out (fun _ h => h.elim))
      go_wp2_with fail
      refine (Join_calls B m d k _ (HR'.out.later HC5.out) HN'.out hcap2 (fun r hr => (HROW'.out r hr).later HC5.out) (by have := HSZ.out; omega)).mono ?_
      rintro e w6 ⟨A6, n6, c6, rfl, h6, hc6, hg6⟩
      have HC6 := Lib.hid (HC5.out.step hc6.out (fun _ h => h.elim))
      have HC46 := Lib.hid (hc5.out.step hc6.out (fun _ h => h.elim))
      go_wp2_with fail
      refine (Join_calls _ _ _ [⟨A5, c5, joined l⟩, ⟨A6, c6, joined k⟩] _ ?_ rfl (Nat.le_refl _) ?_ ?_).mono ?_
      · show Rd _ _ [.slice A5 (joined l).length c5, .slice A6 (joined k).length c6]
        rw [h5.out.len, h6.out.len]
        exact Rd.lit _ [_, _] _
      · intro r hr
        simp only [List.mem_cons, List.not_mem_nil, or_false] at hr
        rcases hr with rfl | rfl
        · exact (h5.out.rd.later hc6.out).alloc _
        · exact h6.out.rd.alloc _
      · have := HJ.out; simp [rowsSize]; omega
      rintro e w7 ⟨A7, n7, c7, rfl, h7, hc7, hg7⟩
      rw [HJX.out] at h7
      have HR7 := Lib.hid h7.out
      have HC7 := Lib.hid ((HC6.out.alloc (.cells #[.slice A5 n5 c5, .slice A6 n6 c6] 23)).step hc7.out (fun _ h => h.elim))
      have HO7 : Hid (Own w7 23 1 A4 (n + m) c4 (rowsV (l ++ k))) := Lib.hid ((HO4.out.chg ((HC46.out.alloc (.cells #[.slice A5 n5 c5, .slice A6 n6 c6] 23))) (fun _ _ h => h)).chg hc7.out (fun _ _ h => h))
      have HG7 : Hid (∀ ad, A7 = some ad → w4.heap.size < ad.block) := Lib.hid (fun ad e => by
        have h1 := hg7.out ad e
        have h2 := HC46.out.size
        simp at h1
        omega)
      clear h5 hc5 hg5 h6 hc6 hg6 h7 hc7 hg7
      go_wp2_with fail
      refine (Join_calls A4 (n + m) c4 (l ++ k) _ HO7.out.rd HLEN.out hcap4 (HROWS.out _ HC7.out) (by have := HSA.out; omega)).mono ?_
      rintro e w8 ⟨A8, n8, c8, rfl, h8, hc8, hg8⟩
      rw [← HX.out] at h8
      have HC8 := Lib.hid (HC7.out.step hc8.out (fun _ h => h.elim))
      have HR78 := Lib.hid (HR7.out.chg hc8.out (fun _ _ h => h))
      have HO8 := Lib.hid (HO7.out.chg hc8.out (fun _ _ h => h))
      go_wp2_with fail
      refine (same_calls A7 A8 n7 n8 c7 c8 X X _ HR78.out.len h8.out.len (by have := HR78.out.len; have := HXL.out; omega) HR78.out.rd h8.out.rd).mono ?_
      rintro e w9 ⟨he, hw9⟩
      rw [decide_eq_true rfl] at he
      subst he
      have HC89 : Hid (Chg nowhere w8 w9) := by
        obtain ⟨z, rfl⟩ := hw9
        exact (Chg.refl _ _).drewN z
      clear hw9 h8 hc8 hg8
      have HC9 := Lib.hid (HC8.out.step HC89.out (fun _ h => h.elim))
      have HR9 := Lib.hid (HR78.out.chg HC89.out (fun _ _ h => h))
      have HO9 := Lib.hid (HO8.out.chg HC89.out (fun _ _ h => h))
      obtain ⟨S0, hS0⟩ : ∃ S0, S0 = 4294967295 - crcL 4294967295 X := ⟨_, rfl⟩
      have HS0 := Lib.hid hS0
      clear hS0
      go_wp2_with fail
      refine (Sum_calls A4 (n + m) c4 (l ++ k) _ (HKN.out _ HC9.out) HO9.out.rd HLEN.out (HROWS.out _ HC9.out) (by have := HSA.out; omega)).mono ?_
      rintro e w10 ⟨rfl, rfl⟩
      rw [← HX.out, ← HS0.out]
      have HJ1 : Hid (joined [⟨A7, c7, X⟩] = X) := Lib.hid (joined_one _ _ _)
      go_wp2_with fail
      refine (Sum_calls _ _ _ [⟨A7, c7, X⟩] _ ((HKN.out _ HC9.out).chg ((Chg.refl nowhere _).alloc _) (fun h => h)) ?_ rfl ?_ ?_).mono ?_
      · show Rd _ _ [.slice A7 X.length c7]
        rw [HR9.out.len]; exact Rd.lit _ [_] _
      · intro r hr
        rw [List.mem_singleton.1 hr]
        exact HR9.out.rd.alloc _
      · have := HXL.out; simp [rowsSize]; omega
      rintro e w11 ⟨rfl, rfl⟩
      rw [HJ1.out, ← HS0.out]
      have HC11 := Lib.hid (HC9.out.alloc (.cells #[.slice A7 n7 c7] 23))
      have HR11 := Lib.hid (HR9.out.alloc (.cells #[.slice A7 n7 c7] 23))
      have HO11 := Lib.hid (HO9.out.alloc (.cells #[.slice A7 n7 c7] 23))
      obtain ⟨W, hW⟩ : ∃ W, W = w10.alloc (.cells #[.slice A7 n7 c7] 23) := ⟨_, rfl⟩
      rw [← hW] at HC11 HR11 HO11
      go_wp2_with fail
      rw [← hW]
      clear hW
      go_loop [7, 8] (fun s t => ∃ (q : Nat), q ≤ n + m ∧ t = .int .i64 q ∧ s = .int .i64 (lenSum ((l ++ k).take q) : Nat)) (fun _ t => n + m - (intOf t).toNat)
      case atStart => exact ⟨0, Nat.zero_le _, rfl, rfl⟩
      case round =>
        obtain ⟨q, hq, rfl, rfl⟩ := hrel
        by_cases hlt : q < n + m
        · have e1 : (q : Int) < n + m := by omega
          have hql : q < (l ++ k).length := by have := HLEN.out; omega
          obtain ⟨ad, rfl, hcq⟩ := HO11.out.rd q (l ++ k)[q].v (by simp only [rowsV, List.getElem?_map, List.getElem?_eq_getElem hql, Option.map_some])
          have hls := lenSum_snoc (l ++ k) q hql
          have hle : lenSum ((l ++ k).take (q + 1)) ≤ 100000 := by
            have h1 := lenSum_le (l ++ k) (q + 1)
            have h2 : lenSum (l ++ k) = X.length := by unfold lenSum; rw [← HX.out]
            have h3 := HXL.out
            omega
          have hcq' : W.cell? (ad.add q) = some (.slice (l ++ k)[q].A (l ++ k)[q].p.length (l ++ k)[q].c) := hcq
          generalize (l ++ k)[q].A = RA at hcq'
          generalize (l ++ k)[q].c = RC at hcq'
          generalize (l ++ k)[q].p.length = RL at hcq' hls
          generalize lenSum ((l ++ k).take q) = s0 at hls ⊢
          have hrl9 : RL ≤ 100000 := by omega
          have hs09 : s0 ≤ 100000 := by omega
          have HLS := Lib.hid hls
          clear hls hcq
          go_wp2
          exact ⟨⟨q + 1, by omega, by go_num, by rw [HLS.out]; go_num⟩, by simp [intOf]; omega⟩
        · have e1 : (n : Int) + m ≤ q := by omega
          have hall : (l ++ k).take q = l ++ k := List.take_of_length_le (by have := HLEN.out; omega)
          rw [hall]
          clear hall
          have hsn : lenSum (l ++ k) = n7 := by unfold lenSum; rw [← HX.out, HR11.out.len]
          rw [hsn]
          clear hsn
          go_wp2_with fail
          refine (spoilRoom_calls A7 n7 c7 X _ HR11.out (by have := HR11.out.len; have := HXL.out; omega)).mono ?_
          rintro e w12 ⟨rfl, hc12⟩
          have HC12 := Lib.hid (HC11.out.step hc12.out (by
            rintro x ⟨ad, e, rfl⟩
            have h1 := HG7.out ad e
            have h2 := HC4.out.size
            omega))
          have HO12 := Lib.hid (HO11.out.chg hc12.out (by
            rintro ad4 e4 ⟨ad, e, h⟩
            have h1 := HG7.out ad e
            have h2 := HO4.out.lt e4
            omega))
          clear hc12
          have hbq : ((n7 : Int) == (n7 : Int)) = true := by simp
          go_wp2_with fail
          refine (Join_calls A4 (n + m) c4 (l ++ k) _ HO12.out.rd HLEN.out hcap4 (HROWS.out _ HC12.out) (by have := HSA.out; omega)).mono ?_
          rintro e w13 ⟨A13, n13, c13, rfl, h13, hc13, hg13⟩
          rw [← HX.out] at h13
          have HC13 := Lib.hid (HC12.out.step hc13.out (fun _ h => h.elim))
          go_wp2_with fail
          refine (Join_calls A n c l _ (HR.out.later HC13.out) HN.out hcap (fun r hr => (HROW.out r hr).later HC13.out) (by have := HSZ.out; omega)).mono ?_
          rintro e w5 ⟨A5, n5, c5, rfl, h5, hc5, hg5⟩
          have HC14 := Lib.hid (HC13.out.step hc5.out (fun _ h => h.elim))
          go_wp2_with fail
          refine (Join_calls B m d k _ (HR'.out.later HC14.out) HN'.out hcap2 (fun r hr => (HROW'.out r hr).later HC14.out) (by have := HSZ.out; omega)).mono ?_
          rintro e w6 ⟨A6, n6, c6, rfl, h6, hc6, hg6⟩
          have HC15 := Lib.hid (HC14.out.step hc6.out (fun _ h => h.elim))
          have HC135 := Lib.hid (hc5.out.step hc6.out (fun _ h => h.elim))
          go_wp2_with fail
          refine (Join_calls _ _ _ [⟨A5, c5, joined l⟩, ⟨A6, c6, joined k⟩] _ ?_ rfl (Nat.le_refl _) ?_ ?_).mono ?_
          · show Rd _ _ [.slice A5 (joined l).length c5, .slice A6 (joined k).length c6]
            rw [h5.out.len, h6.out.len]
            exact Rd.lit _ [_, _] _
          · intro r hr
            simp only [List.mem_cons, List.not_mem_nil, or_false] at hr
            rcases hr with rfl | rfl
            · exact (h5.out.rd.later hc6.out).alloc _
            · exact h6.out.rd.alloc _
          · have := HJ.out; simp [rowsSize]; omega
          rintro e w7 ⟨A16, n16, c16, rfl, h16, hc16, hg16⟩
          rw [HJX.out] at h16
          have HC16 := Lib.hid ((HC15.out.alloc (.cells #[.slice A5 n5 c5, .slice A6 n6 c6] 23)).step hc16.out (fun _ h => h.elim))
          have HR16 := Lib.hid ((h13.out.rd.later (HC135.out.alloc (.cells #[.slice A5 n5 c5, .slice A6 n6 c6] 23))).later hc16.out)
          have HL13 := Lib.hid h13.out.len
          clear h5 hc5 hg5 h6 hc6 hg6 hc16 hg16 h13 hc13 hg13
          go_wp2_with fail
          refine (same_calls A13 A16 n13 n16 c13 c16 X X _ HL13.out h16.out.len (by have := HL13.out; have := HXL.out; omega) HR16.out h16.out.rd).mono ?_
          rintro e w9 ⟨he, hw9⟩
          rw [decide_eq_true rfl] at he
          subst he
          have HC17 : Hid (Chg nowhere w2 w9) := by
            obtain ⟨z, rfl⟩ := hw9
            exact HC16.out.drewN z
          clear hw9
          go_wp2_with fail
          refine (known_calls _ (HKN.out _ HC17.out)).mono ?_
          rintro e w15 ⟨rfl, h15⟩
          have HC18 := Lib.hid (HC17.out.step h15 (fun _ h => h.elim))
          clear h15
          go_wp2_with fail
          go_ret
          exact ⟨rfl, HC18.out⟩
    · go_wp2_with fail
      go_ret
      exact ⟨rfl, Chg.refl _ _⟩
  · go_wp2_with fail
    go_ret
    exact ⟨rfl, Chg.refl _ _⟩
end Go.Proofs.YtifakldkcjjokaaDoor
