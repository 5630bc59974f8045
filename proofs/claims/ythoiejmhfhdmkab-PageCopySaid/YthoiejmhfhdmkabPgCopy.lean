/- A copy of a flash is its own. -/
import Derived.Test.YthoiejmhfhdmkabPgErases
open Go Go.RowKit
namespace Go.Proofs.Ythoiejmhfhdmkab
theorem wpList_append_run {P : Program} {t : TypeId} {ops : Array Oper} {rest : List Oper} {o : Oper} {a : Act} {w w' : World} {v : Value} {Q : Exit → Act → World → Prop} (hgd : o.guard = none) (s x : Operand)
    (ho : o.op = .call { callee := .builtin .append, args := #[s, x], argTypes := #[t, t] }) {vs vx : Value} (hs : a.eval s = vs) (hx : a.eval x = vx)
    (hrun : (Builtin.append_ #[t, t] o.type #[vs, vx]).run P w = .ok v w') (h : wpList P ops Q rest (a.put o.dst v) w') : wpList P ops Q (o :: rest) a w :=
  wpList_plain hgd fun _ hK => by
    unfold Oper.wp execOp
    simp only [ho, resolve, invoke, builtin, Sem.run_bind, Sem.run_pure, Result.andThen_ok, List.map_toArray, List.map_cons, List.map_nil, hs, hx, hrun]
    exact hK _ _ h
theorem zero_noughts (n : Nat) : Builtin.zeroCells (Value.agg (Array.replicate 64 (.int .u8 0))).cells n = noughtCells (n * 64) := by
  have h64 : (Value.agg (Array.replicate 64 (.int .u8 0))).cells.size = 64 := by simp [Value.cells]
  have h := made_noughts (Value.agg (Array.replicate 64 (.int .u8 0))).cells (fun i hi => by
    have h64 : i < 64 := by simpa [Value.cells] using hi
    simp [Value.cells, h64]) (by simp [Value.cells]) (n * 64)
  rw [← h]
  unfold Builtin.zeroCells madeCells
  rw [h64]
theorem run_pClone (a : Addr) (N c : Nat) (xs : List UInt8) (w : World) (ty : TypeId) (hr : Rd w (some a) (bs xs)) (hl : xs.length = N * 64) (h1 : 1 ≤ N) (hN : N ≤ 256) :
    ∃ p' c' w', (Builtin.append_ #[40, 40] ty #[.slice (some ⟨w.heap.size, 0, none⟩) 0 0, .slice (some a) N c]).run Try.prog (w.alloc (.cells #[] 44)) = .ok (.slice (some ⟨p', 0, none⟩) N c') w' ∧
      Hid (BlkB w' p' 44 (xs ++ noughts ((c' - N) * 64))) ∧ Hid (Chg nowhere w w') ∧ Hid (w.heap.size ≤ p') ∧ Hid (N ≤ c' ∧ c' ≤ maxLen) := by
  obtain ⟨i, hi, hz, hs, hb⟩ := info_parts infoPage
  have hr1 := hr.alloc (.cells #[] 44)
  have h := run_append_grow (P := Try.prog) (w.alloc (.cells #[] 44)) 40 ty 44 i _ Try.underlying40 hi hz ⟨w.heap.size, 0, none⟩ 0 0 [] (by simp) (fun j v hj => by simp at hj)
    a N c (bs xs) (by rw [bs_length, hl, hs]) (fun j v hj => by
      obtain ⟨ad, e, hc⟩ := hr1 j v hj
      injection e with e
      subst e
      exact hc) (by omega) (by omega) (by rw [hb, Nat.zero_add, nextslicecap_zero (by omega)]; omega)
  rw [Nat.zero_add] at h
  refine ⟨_, _, _, h, ?_, ?_, ?_, ?_⟩
  · rw [zero_noughts]
    have hk := Blk.new (w.alloc (.cells #[] 44)).drew 44 ((bs (xs ++ noughts ((grownCap (w.alloc (.cells #[] 44)) N 0 44 - N) * 64))).toArray)
    have e : (#[] : Array Value) ++ (bs xs).toArray ++ noughtCells ((grownCap (w.alloc (.cells #[] 44)) N 0 44 - N) * 64) = (bs (xs ++ noughts ((grownCap (w.alloc (.cells #[] 44)) N 0 44 - N) * 64))).toArray := by
      rw [← bs_append]
      simp [noughtCells]
    exact e ▸ hk
  · exact (((Chg.refl nowhere w).alloc _).drewN 1).alloc _
  · show w.heap.size ≤ (w.alloc _).heap.size
    simp
  · exact ⟨grownCap_ge _ _ _ _, grownCap_le_maxLen _ _ _ _ (by unfold maxLen; omega)⟩
theorem nilP (w : World) (a : Option Addr) (n c n' c' : Nat) : (binOp .eql 40 (.slice a n c) (.slice none n' c')).run Try.prog w = .ok (.bool a.isNone) w :=
  Lib.run_eql_slice_nil w 40 44 a n c n' c' Try.underlying40
attribute [local go_sem] nilP
set_option maxRecDepth 100000 in
theorem pClone_calls (a : Addr) (N c : Nat) (xs : List UInt8) (w : World) (hr : Rd w (some a) (bs xs)) (hl : xs.length = N * 64) (h1 : 1 ≤ N) (hN : N ≤ 256) :
    Calls Try.prog 23 #[.slice (some a) N c] w fun e w' => ∃ p' c', e = .returned (.slice (some ⟨p', 0, none⟩) N c') ∧
      Hid (BlkB w' p' 44 (xs ++ noughts ((c' - N) * 64))) ∧ Hid (Chg nowhere w w') ∧ Hid (w.heap.size ≤ p') ∧ Hid (N ≤ c' ∧ c' ≤ maxLen) := by
  obtain ⟨p', c', w', hrun, k1, k2, k3, k4⟩ := run_pClone a N c xs w 40 hr hl h1 hN
  have HR := Lib.hid hrun
  clear hr hl h1 hN hrun
  go_enter Try.func23, Try.ntmps23
  go_wp2_with (at_builtin; refine wpList_append_run rfl (.tmp 5) (.tmp 6) rfl rfl rfl HR.out ?_)
  go_wp2
  go_ret
  exact ⟨p', c', rfl, k1, k2, k3, k4⟩
set_option maxRecDepth 100000 in
set_option maxHeartbeats 800000 in
theorem Copy_calls (g p N : Nat) (s : FS) (w : World) (h : FlashAt w g p N s) (h1 : 1 ≤ N) :
    Calls Try.prog 12 #[.pointer (some ⟨g, 0, none⟩)] w fun e w' => ∃ g' p' c', e = .returned (.pointer (some ⟨g', 0, none⟩)) ∧
      Hid (FlashAt w' g' p' N { s with pages := s.pages.take (N * 64) ++ noughts ((c' - N) * 64), cap := c' }) ∧ Hid (Chg nowhere w w') ∧ Hid (w.heap.size ≤ g' ∧ w.heap.size ≤ p') := by
  obtain ⟨hc0, hc1, hc2, hc3, hc4, _⟩ := h.cells
  have H := Lib.hid h
  have H1 := Lib.hid h1
  have hgl : g < w.heap.size := h.head.lt
  have hNN := h.ok.most
  have HRD : Hid (Rd w (some ⟨p, 0, none⟩) (bs (s.pages.take (N * 64)))) := Lib.hid (by simpa using h.body.rd 0 (N * 64))
  have HTL : Hid ((s.pages.take (N * 64)).length = N * 64) := Lib.hid (by have := h.ok.len; have := h.ok.fit; simp; omega)
  have HOK := Lib.hid h.ok
  have HW : Hid (Chg nowhere w (w.alloc (.cells #[.slice (some ⟨p, 0, none⟩) N s.cap, .bool s.dead, .bool s.fused, .int .i64 s.left, .int .i64 s.tear] 42))) := Lib.hid ((Chg.refl _ _).alloc _)
  have HB : Hid (Blk (w.alloc (.cells #[.slice (some ⟨p, 0, none⟩) N s.cap, .bool s.dead, .bool s.fused, .int .i64 s.left, .int .i64 s.tear] 42)) w.heap.size 42 #[.slice (some ⟨p, 0, none⟩) N s.cap, .bool s.dead, .bool s.fused, .int .i64 s.left, .int .i64 s.tear]) := Lib.hid (Blk.new _ _ _)
  clear h h1
  go_enter Try.func12, Try.ntmps12
  go_wp2_with fail
  generalize w.alloc (.cells #[.slice (some ⟨p, 0, none⟩) N s.cap, .bool s.dead, .bool s.fused, .int .i64 s.left, .int .i64 s.tear] 42) = w1 at *
  refine (pClone_calls _ N s.cap _ _ (HRD.out.later HW.out) HTL.out H1.out hNN).mono ?_
  rintro e w2 ⟨p', c', rfl, k1, k2, k3, k4⟩
  have hz1 := HW.out.size
  have HH := Lib.hid (HB.out.chg k2.out (fun h => h))
  have hlt1 := HB.out.lt
  have hcc : w2.cell? ⟨w.heap.size, 0, none⟩ = some (.slice (some ⟨p, 0, none⟩) N s.cap) := HH.out.cell 0
  have hff : w2.frozen? ⟨w.heap.size, 0, none⟩ = false := HH.out.frozen 0
  have hpp : w1.heap.size ≤ p' := k3.out
  have HK := Lib.hid k1.out
  have HC : Hid (Chg nowhere w w2) := Lib.hid (HW.out.step k2.out (fun _ h => h.elim))
  clear k1 k2
  go_wp2_with fail
  go_ret
  refine ⟨w.heap.size, p', c', rfl, ⟨HH.out.set_ 0 _, Blk.far HK.out (by show p' ≠ w.heap.size; omega) _, by omega, ?_⟩, HC.out.step (Chg.setCell (S := fun k => k = w.heap.size) (Chg.refl _ _) (p := ⟨w.heap.size, 0, none⟩) (fun _ => rfl) _) (by rintro x rfl; exact Nat.le_refl _), Nat.le_refl _, by omega⟩
  have h4 := k4.out
  refine ⟨?_, h4.1, hNN, HOK.out.tear, HOK.out.left⟩
  show (s.pages.take (N * 64) ++ noughts ((c' - N) * 64)).length = 64 * c'
  rw [List.length_append, HTL.out]
  simp [noughts]
  omega
set_option maxRecDepth 100000 in
set_option maxHeartbeats 1600000 in
theorem pageCopy_calls (A : Option Addr) (n c : Nat) (xs : List UInt8) (w : World) (ha : Rd w A (bs xs)) (hn : xs.length = n) (hn9 : n ≤ 9223372036854775807) :
    Calls Try.prog 4 #[.slice A n c] w fun e w' => e = .returned (.bool true) ∧ Chg nowhere w w' := by
  have HA := Lib.hid ha
  have HN := Lib.hid hn
  clear ha hn
  by_cases h1 : 64 < n
  · have e1 : (64 : Int) < n := by omega
    go_enter Try.func4, Try.ntmps4
    go_wp2_with fail
    go_ret
    exact ⟨rfl, Chg.refl _ _⟩
  · have e1 : ¬ (64 : Int) < n := by omega
    go_enter Try.func4, Try.ntmps4
    go_wp2_with fail
    refine (New_calls 2 _ (by decide) (by decide)).mono ?_
    rintro e w1 ⟨g, p, rfl, k1, hc1, hg, hp⟩
    have HL1 := Lib.hid (Live.new k1.out)
    have HC1 := hc1
    have HTWO : Hid (∀ x, Two g p x → w.heap.size ≤ x) := Lib.hid (by rintro x (rfl | rfl) <;> assumption)
    clear k1 hc1
    go_wp2_with fail
    refine (Live_program g p 2 _ 1 A n c xs _ HL1.out (by decide) (HA.out.later HC1.out) HN.out (HA.out.apart HTWO.out) (by omega)).mono ?_
    rintro e w2 ⟨rfl, k2, c2⟩
    have HC2 := Lib.hid (HC1.out.step c2.out HTWO.out)
    obtain ⟨hg2, hp2, hlen2⟩ := k2.out.lts
    clear c2
    generalize prD xs (ones (64 * 2)) (1 * 64) xs.length = ps at *
    have HPL := Lib.hid (pageOf_len hlen2 (show 1 < 2 by decide))
    clear hlen2
    go_wp2_with fail
    refine (Live_read g p 2 _ 1 _ k2.out (by decide)).mono ?_
    rintro e w3 ⟨gx, cx, rfl, ox, c3, hgx⟩
    have HC3 := Lib.hid (HC2.out.step c3.out (fun _ h => h.elim))
    have HL3 := Lib.hid (k2.out.calm c3.out)
    have hz3 := c3.out.size
    have hgx' : w2.heap.size ≤ gx := hgx.out
    have hlx : gx < w3.heap.size := ox.out.lt rfl
    clear c3 k2
    go_wp2_with fail
    obtain ⟨s, hs, hps, hrest⟩ := HL3.out.at_
    refine (Copy_calls g p 2 s _ hs (by decide)).mono ?_
    rintro e w4 ⟨g', p', c', rfl, k4, c4, hgp⟩
    have HC4 := Lib.hid (HC3.out.step c4.out (fun _ h => h.elim))
    have HL4 := Lib.hid (HL3.out.calm c4.out)
    have HX4 := Lib.hid (ox.out.chg c4.out (fun _ _ h => h))
    have hg4 : w3.heap.size ≤ g' := hgp.out.1
    have hp4 : w3.heap.size ≤ p' := hgp.out.2
    have hz0 : w.heap.size ≤ w3.heap.size := HC3.out.size
    have HTWO' : Hid (∀ x, Two g' p' x → w.heap.size ≤ x) := Lib.hid (by rintro x (rfl | rfl) <;> omega)
    clear c4 hs hps hrest
    generalize ({ s with pages := s.pages.take (2 * 64) ++ noughts ((c' - 2) * 64), cap := c' } : FS) = s4 at *
    go_wp2_with fail
    refine (Erase_calls g' p' 2 s4 1 _ k4.out).mono ?_
    rintro e w5 ⟨rfl, k5, c5⟩
    have HC5 := Lib.hid (HC4.out.step c5.out HTWO'.out)
    have HL5 := Lib.hid (HL4.out.far c5.out (by rintro (h | h) <;> (have h' : g = _ := h; omega)) (by rintro (h | h) <;> (have h' : p = _ := h; omega)))
    have HX5 := Lib.hid (HX4.out.chg c5.out (by
      intro ad e hT
      injection e with e; subst e
      rcases hT with h | h <;> (have h' : gx = _ := h; omega)))
    generalize (s4.change 2 1 64 erD).2 = s5 at *
    clear c5 k4
    generalize (s4.change 2 1 64 erD).1 = e5 at *
    have hz5 := HC5.out.size
    have hz4 := HL5.out.lts
    have hgx5 : gx < w5.heap.size := HX5.out.lt rfl
    have hg5 : g' < w5.heap.size := k5.out.head.lt
    have hp5 : p' < w5.heap.size := Blk.lt k5.out.body
    go_wp2_with fail
    refine (Live_read g p 2 _ 1 _ HL5.out (by decide)).mono ?_
    rintro e w6 ⟨gy, cy, rfl, oy, c6, hgy⟩
    have HC6 := Lib.hid (HC5.out.step c6.out (fun _ h => h.elim))
    have HL6 := Lib.hid (HL5.out.calm c6.out)
    have HX6 := Lib.hid (HX5.out.chg c6.out (fun _ _ h => h))
    have HK6 := Lib.hid (k5.out.calm c6.out)
    have hgy' : w5.heap.size ≤ gy := hgy.out
    obtain ⟨cur, hcur, h64⟩ : ∃ cur, Blk w6 gy 5 cur ∧ 64 ≤ cur.size := by
      rcases oy.out.form with ⟨h, _⟩ | ⟨g4, cur, h, hb, h1, h2, h3, h4⟩
      · cases h
      · injection h with h
        injection h with h
        subst h
        exact ⟨cur, hb, by omega⟩
    have HCUR := Lib.hid hcur
    clear c6 oy hgy k5 HX5 HL5 HC5 hcur
    go_wp2_with fail
    go_loopw [9] (fun t wr => ∃ k : Nat, k ≤ 64 ∧ t = .int .i64 k ∧ ∃ cur, Blk wr gy 5 cur ∧ 64 ≤ cur.size ∧ Chg (fun x => x = gy) w6 wr) (fun t _ => 64 - (intOf t).toNat)
    case atStart => exact ⟨0, Nat.zero_le _, rfl, cur, HCUR.out, h64, Chg.refl _ _⟩
    case round =>
      obtain ⟨k, hk, rfl, cu, hb, h6, hc⟩ := hrel
      have HB := Lib.hid hb
      have HC := Lib.hid hc
      by_cases hlt : k < 64
      · have f1 : (k : Int) < 64 := by omega
        have f0 : (0 : Int) ≤ k := by omega
        have hcell : wr.cell? ⟨gy, k, none⟩ = some cu[k] := by rw [hb.cell k]; simp
        have hfr : wr.frozen? ⟨gy, k, none⟩ = false := hb.frozen k
        clear hb hc
        go_wp2_with fail
        exact ⟨⟨k + 1, by omega, by go_num, _, HB.out.set_ k _, by simpa using h6, HC.out.setCell (p := ⟨gy, k, none⟩) (fun _ => rfl) _⟩, by simp [intOf]; omega⟩
      · have f1 : (64 : Int) ≤ k := by omega
        clear hb hc
        go_wp2_with fail
        have hz6 := HL6.out.lts
        have HLR := Lib.hid (HL6.out.far HC.out (fun (h : g = gy) => by omega) (fun (h : p = gy) => by omega))
        have HXR := Lib.hid (HX6.out.chg HC.out (by
          intro ad e hT
          injection e with e; subst e
          have h' : gx = gy := hT
          omega))
        have HKR := Lib.hid (HK6.out.chg HC.out (fun (h : g' = gy) => by omega) (fun (h : p' = gy) => by omega))
        have HCR := Lib.hid (HC6.out.step HC.out (by rintro x rfl; omega))
        clear HB
        refine (Live_read g p 2 _ 1 _ HLR.out (by decide)).mono ?_
        rintro e w7 ⟨gz, cz, rfl, oz, c7, hgz⟩
        have HC7 := Lib.hid (HCR.out.step c7.out (fun _ h => h.elim))
        have HX7 := Lib.hid (HXR.out.chg c7.out (fun _ _ h => h))
        have HK7 := Lib.hid (HKR.out.calm c7.out)
        have cvx := conv_own HX7.out HPL.out
        have cvz := conv_own oz.out HPL.out
        clear c7 hgz
        go_wp2_with fail
        refine (Len_calls g' p' 2 s5 _ HK7.out).mono ?_
        rintro e w8 ⟨rfl, rfl⟩
        go_wp2_with fail
        refine (pgKnown_calls _).mono ?_
        rintro e w9 ⟨rfl, h9⟩
        have HC9 := Lib.hid (HC7.out.step h9.out (fun _ h => h.elim))
        go_wp2_with fail
        go_ret
        exact ⟨rfl, HC9.out⟩
end Go.Proofs.Ythoiejmhfhdmkab
