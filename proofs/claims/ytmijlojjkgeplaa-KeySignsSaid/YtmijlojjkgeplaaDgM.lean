/- Whole blocks mixed in: (*state).mix; the rounds' numbers. -/
import Derived.Test.YtmijlojjkgeplaaDgT
import Derived.Test.YtmijlojjkgeplaaDgW
import Derived.Deep.WholeRow
open Go Go.RowKit
namespace Go.Proofs.Ytmijlojjkgeplaa
theorem wpList_build_eq {P : Program} {ops : Array Oper} {rest : List Oper} {o : Oper} {a : Act} {w : World} {Q : Exit → Act → World → Prop} (hg : o.guard = none) (t : TypeId) (parts : Array (Nat × Operand)) (ho : o.op = .build t parts)
    (cs : Array Value) (hf : P.built t (parts.map fun (i, x) => (i, a.eval x)).toList = some cs) (h : wpList P ops Q rest (a.put o.dst (.agg cs)) w) : wpList P ops Q (o :: rest) a w :=
  wpList_build hg t parts ho (by rw [hf]; rfl) (by rw [hf]; exact h)
theorem Apart.part {S : Nat → Prop} {A : Option Addr} {p q : List UInt8} (h : Apart S A (bs p)) (hq : q ≠ [] → p ≠ []) : Apart S A (bs q) := fun hne ad e =>
  h (by
    have : q ≠ [] := by rintro rfl; exact hne rfl
    have h2 := hq this
    intro h3
    exact h2 (by simpa [bs] using h3)) ad e
theorem addr_bare {w : World} {a : Addr} {v : Value} (h : w.cell? a = some v) : a = ⟨a.block, a.off, none⟩ := by
  rcases a with ⟨b, o, s⟩
  cases s with
  | none => rfl
  | some x =>
    unfold World.cell? at h
    split at h
    · simp at h
    · cases h
/-- the rest of a slice, as the walk spells it -/
theorem rd_from {w : World} {B : Option Addr} {d : Nat} {p : List UInt8} (s : Nat) (hr : Rd w B (bs p)) (hp : p.length ≤ d) :
    Rd w (if d = s then B else B.map fun x => { block := x.block, off := x.off + s }) (bs (p.drop s)) ∧ ∀ S, Apart S B (bs p) → Apart S (if d = s then B else B.map fun x => { block := x.block, off := x.off + s }) (bs (p.drop s)) := by
  by_cases h : d = s
  · rw [if_pos h, List.drop_eq_nil_of_le (by omega)]
    exact ⟨Rd.nil _ _, fun S _ hne => absurd rfl hne⟩
  · rw [if_neg h]
    refine ⟨?_, fun S hA => ?_⟩
    · intro k u hk
      obtain ⟨ad, rfl, hc⟩ := hr (s + k) u (by rw [show bs (p.drop s) = (bs p).drop s from List.map_drop, List.getElem?_drop] at hk; exact hk)
      refine ⟨_, rfl, ?_⟩
      have e : (({ block := ad.block, off := ad.off + s } : Addr).add k) = ad.add (s + k) := by
        by_cases h0 : s + k = 0
        · obtain rfl : s = 0 := by omega
          obtain rfl : k = 0 := by omega
          rw [add_zero_spot] at hc
          rw [add_zero_spot, add_zero_spot]
          exact (addr_bare hc).symm
        · by_cases hk0 : k = 0
          · subst hk0
            simp [Addr.add, show s ≠ 0 by omega]
          · simp [Addr.add, hk0, Nat.add_assoc]
      rw [e]
      exact hc
    · have hA' := hA.part (q := p.drop s) (by rintro h rfl; simp at h)
      intro hne ad e
      rcases B with _ | ad0
      · cases e
      · injection e with e
        subst e
        exact hA' hne ad0 rfl
set_option maxRecDepth 100000 in
set_option maxHeartbeats 400000 in
theorem rounds_calls (w : World) : Calls Try.prog 132 #[] w fun e w' => e = .returned (.agg (u32s kSha)) ∧ Hid (Chg nowhere w w') := by
  go_enter Try.func132, Try.ntmps132
  go_wp2_with (first | (refine wpList_build_eq rfl 167 _ rfl (u32s kSha) (by kernel_rfl) ?_) | (refine wpList_store_row rfl 167 _ _ rfl w.heap.size (u32s kSha) rfl rfl 167 _ (heap_alloc_new w _) (by kernel_rfl) (by kernel_rfl) (u32s_one _) ?_))
  refine bodyPost_ret (v := .agg (u32s kSha)) (results_cell_row rfl _ _ w.heap.size 167 (u32s kSha) (0, 0) _ rfl ((Blk.new w _ _).row_ _) Try.underlying167 rfl (by kernel_rfl)) rfl ⟨rfl, ?_⟩
  exact ((Chg.refl _ _).alloc _).setRow (fun h => by omega) _
set_option maxRecDepth 100000 in
set_option maxHeartbeats 400000 in
theorem mix_calls (g gk : Nat) (A : Option Addr) (n c m : Nat) (p : List UInt8) (v : V8) (w : World) (hv : v.ok) (hb : Blk w g 171 (u32s v.l)) (hk : Blk w gk 167 (u32s kSha)) (hr : Rd w A (bs p)) (hn : p.length = n) (hm : n = 64 * m) (hc : n ≤ c)
    (hA : Apart (fun k => k = g) A (bs p)) (hgk : gk ≠ g) :
    Calls Try.prog 133 #[.pointer (some ⟨g, 0, none⟩), .slice A n c, .pointer (some ⟨gk, 0, none⟩)] w fun e w' => e = .returned (.tuple #[]) ∧
      Hid (Blk w' g 171 (u32s (mixSha m v p).l)) ∧ Hid (Chg (fun k => k = g) w w') := by
  have HV := Lib.hid hv
  have HB := Lib.hid hb
  have HK := Lib.hid hk
  have HR := Lib.hid hr
  have HN := Lib.hid hn
  have HM := Lib.hid hm
  have HA := Lib.hid hA
  clear hv hb hk hr hn hm hA
  go_enter Try.func133, Try.ntmps133
  go_wp2_with fail
  go_loopw [1, 6] (fun s _ wr => ∃ (k l d : Nat) (B : Option Addr), k ≤ m ∧ s = .slice B l d ∧ l = 64 * (m - k) ∧ l ≤ d ∧ d ≤ c ∧ Rd wr B (bs (p.drop (64 * k))) ∧ Apart (fun k => k = g) B (bs (p.drop (64 * k))) ∧
      Blk wr g 171 (u32s (mixSha k v p).l) ∧ Chg (fun k => k = g) w wr) (fun s _ _ => match s with | .slice _ l _ => l | _ => 0)
  case atStart =>
    exact ⟨0, n, c, A, Nat.zero_le _, rfl, HM.out, hc, Nat.le_refl _, HR.out, HA.out, HB.out, Chg.refl _ _⟩
  case round =>
    obtain ⟨k, l, d, B, hkm, rfl, hl, hld, hdc, hr, hB, hb, hch⟩ := hrel
    have HL := Lib.hid hl
    have HR1 := Lib.hid hr
    have HB1 := Lib.hid hB
    have HB2 := Lib.hid hb
    have HC1 := Lib.hid hch
    clear hr hB hb hch
    by_cases hlt : k < m
    · have e1 : (64 : Int) ≤ l := by omega
      have e2 : 64 ≤ d := by omega
      have e3 : (64 : Int) ≤ d := by omega
      clear hl
      have hp64 : ((p.drop (64 * k)).take 64).length = 64 := by
        have := HN.out; have := HM.out
        simp; omega
      have HP64 := Lib.hid hp64
      have HRT : Hid (Rd wr B (bs ((p.drop (64 * k)).take 64))) := Lib.hid (by rw [← bs_take]; exact HR1.out.take 64)
      clear hp64
      obtain ⟨ws, hws⟩ : ∃ ws, ws = sched ((p.drop (64 * k)).take 64) 48 := ⟨_, rfl⟩
      have HWS := Lib.hid hws
      clear hws
      go_wp2_with fail
      refine (words_calls B _ _ ws _ HRT.out HP64.out HWS).mono ?_
      rintro e w2 ⟨rfl, hc2⟩
      have hi : (Try.prog.info? 167).map (·.size) = some 64 := by kernel_rfl
      have hwl : ws.length = 64 := by rw [HWS.out, sched_len]
      have hlen1 : (u32s ws).size = 64 := by rw [u32s_size, hwl]
      have HI := Lib.hid hi
      have HWL := Lib.hid hwl
      have HLEN1 := Lib.hid hlen1
      clear hi hwl hlen1
      go_wp2_with (refine wpList_store_row rfl 167 _ _ rfl w2.heap.size (u32s ws) rfl rfl 167 _ (heap_alloc_new w2 _) (by rw [HLEN1.out]; exact HI.out) (by rw [HLEN1.out]; rfl) (u32s_one _) ?_)
      rw [World.setRow_alloc_new]
      have hb2 : Blk (w2.alloc (.cells (u32s ws) 167)) g 171 (u32s (mixSha k v p).l) := (HB2.out.chg hc2.out (fun h => h)).alloc _
      have hk2 : Blk (w2.alloc (.cells (u32s ws) 167)) gk 167 (u32s kSha) := ((HK.out.chg HC1.out hgk).chg hc2.out (fun h => h)).alloc _
      refine (turn_calls g w2.heap.size gk (mixSha k v p) ws kSha _ (mixSha_ok HV.out _ _) hb2 (Blk.new w2 _ _) hk2 HWL.out kSha_len (by rw [HWS.out]; exact sched_lt _ _) kSha_lt).mono ?_
      rintro e w3 ⟨rfl, h4, h5⟩
      have HST : Hid (Blk w3 g 171 (u32s (mixSha (k + 1) v p).l)) := Lib.hid (by
        have h := h4.out
        rw [HWS.out] at h
        rw [mixSha_snoc]
        exact h)
      have HC3 : Hid (Chg (fun k => k = g) w w3) := Lib.hid (HC1.out.trans (((hc2.out.alloc (.cells (u32s ws) 167)).mono (fun _ _ h => h.elim)).trans h5.out (fun _ _ h => h)) (fun _ _ h => h))
      have HR3 : Hid (Rd w3 B (bs (p.drop (64 * k)))) := Lib.hid (((HR1.out.later hc2.out).alloc (.cells (u32s ws) 167)).chg h5.out HB1.out)
      have hcut := rd_from (d := d) 64 HR3.out (by
        have h1 := HN.out
        have h2 := HM.out
        have h3 := HL.out
        have h4 : m - k + k = m := by omega
        rw [List.length_drop]
        omega)
      have hcut2 := hcut.2 _ HB1.out
      have hcut1 := hcut.1
      rw [List.drop_drop] at hcut1 hcut2
      have HCUT := Lib.hid (And.intro hcut1 hcut2)
      clear h4 h5 hb2 hk2 hcut hcut1 hcut2
      go_wp2_with fail
      refine ⟨⟨k + 1, l - 64, d - 64, _, by omega, rfl, by have := HL.out; omega, by omega, by omega, HCUT.out.1, HCUT.out.2, HST.out, HC3.out⟩, ?_⟩
      show l - 64 < l
      omega
    · have e1 : ¬ (64 : Int) ≤ l := by omega
      clear hl
      go_wp2_with fail
      go_end0
      obtain rfl : k = m := by omega
      exact ⟨rfl, HB2, HC1⟩
end Go.Proofs.Ytmijlojjkgeplaa
