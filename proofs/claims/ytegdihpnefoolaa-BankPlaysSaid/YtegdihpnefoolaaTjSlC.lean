/- Join, SlC -/
import Derived.Test.YtegdihpnefoolaaTjBase
import Derived.Test.YtegdihpnefoolaaShelf
import Derived.Test.YtegdihpnefoolaaTjSlB
import Derived.Test.YtegdihpnefoolaaTjPgQ
section
open Go Go.RowKit
namespace Go.Proofs.Ytegdihpnefoolaa
theorem bs_bytesOf (zs : List Int) (h : ∀ x ∈ zs, 0 ≤ x ∧ x < 256) : bs (Lib.bytesOf zs) = zs.map (.int .u8) := by
  unfold bs Lib.bytesOf
  rw [List.map_map]
  apply List.map_congr_left
  intro x hx
  have := h x hx
  simp [u8v]
  omega
/-- fresh bytes, with room behind them -/
structure Room (w : World) (A : Option Addr) (n c : Nat) (xs : List UInt8) : Prop where
  len : xs.length = n
  le : n ≤ c
  max : c ≤ maxLen
  at_ : (A = none ∧ c = 0) ∨ ∃ (g : Nat) (zs : List UInt8), A = some ⟨g, 0, none⟩ ∧ zs.length = c ∧ zs.take n = xs ∧ Rd w A (bs zs) ∧ ∀ i, i < c → w.frozen? ⟨g, i, none⟩ = false
theorem Room.rd {w : World} {A : Option Addr} {n c : Nat} {xs : List UInt8} (h : Room w A n c xs) : Rd w A (bs xs) := by
  rcases h.at_ with ⟨_, h0⟩ | ⟨g, zs, _, _, ht, hr, _⟩
  · have h1 := h.len
    have h2 := h.le
    have : xs = [] := List.eq_nil_of_length_eq_zero (by omega)
    subst this
    exact Rd.nil _ _
  · rw [← ht, ← bs_take]
    exact hr.take n
theorem Room.none (w : World) : Room w none 0 0 [] := ⟨rfl, Nat.le_refl _, Nat.zero_le _, .inl ⟨rfl, rfl⟩⟩
theorem Room.of_fresh {B : Nat} {w : World} {v : Value} {l : List UInt8} (h : Lib.FreshBytes B w v l) : ∃ A n c, v = .slice A n c ∧ Room w A n c l ∧ ∀ ad, A = some ad → B ≤ ad.block := by
  obtain ⟨g, cap, zs, rfl, hB, hle, hm, hz, hrng, hb, hc, hf⟩ := h
  refine ⟨_, _, _, rfl, ⟨rfl, hle, hm, .inr ⟨g, Lib.bytesOf zs, rfl, by simpa [Lib.bytesOf] using hz, ?_, ?_, hf⟩⟩, fun ad e => by injection e with e; subst e; exact hB⟩
  · conv => rhs; rw [← hb]
    unfold Lib.bytesOf
    exact List.map_take.symm
  · rw [bs_bytesOf zs hrng]
    intro k u hk
    refine ⟨_, rfl, ?_⟩
    have hk' : k < zs.length := by simpa using (List.getElem?_eq_some_iff.1 hk).1
    rw [add_row, hc k (by omega)]
    simp only [List.getElem?_map, List.getElem?_eq_getElem hk', Option.map_some, Option.some.injEq] at hk
    rw [← hk, List.getD_eq_getElem?_getD, List.getElem?_eq_getElem hk']
    rfl
theorem addr_plain {w : World} {a : Addr} {v : Value} (h : w.cell? a = some v) : a = ⟨a.block, a.off, none⟩ := by
  rcases a with ⟨b, o, s⟩
  cases s with
  | none => rfl
  | some x =>
    unfold World.cell? at h
    split at h
    · simp at h
    · cases h
theorem holds_row {w : World} {r : Row} (h : Rd w r.A (bs r.p)) : Lib.HoldsBytes w r.v r.p := by
  refine ⟨r.A, r.c, rfl, fun hn => ?_, fun a ha i x hx => ?_⟩
  · rcases hp : r.p with _ | ⟨x, l⟩
    · rfl
    · obtain ⟨ad, e, _⟩ := h 0 (u8v x) (by rw [hp]; rfl)
      rw [hn] at e
      cases e
  · obtain ⟨ad, e, hc⟩ := h i (u8v x) (by simp [bs, hx])
    rw [ha] at e
    injection e with e
    subst e
    exact hc
theorem join_flat (ls : List (List UInt8)) : Lib.join ls [] = ls.flatten := by
  cases ls with
  | nil => rfl
  | cons x r =>
    rw [Lib.join_cons]
    unfold Lib.joinTail
    simp
set_option maxRecDepth 100000 in
theorem bJoin_calls (A : Option Addr) (n c : Nat) (l : List Row) (w : World) (hr : Rd w A (rowsV l)) (hn : l.length = n) (hcap : n ≤ c) (hrow : RowsOk w l) (hx : Lib.lens (l.map (·.p)) ≤ 140737488355328) (hn47 : n ≤ 140737488355328) :
    Calls Try.prog 102 #[.slice A n c, .slice none 0 0] w fun e w' => ∃ A' n' c', e = .returned (.slice A' n' c') ∧ Hid (Room w' A' n' c' (l.map (·.p)).flatten) ∧ Hid (Chg nowhere w w') ∧ Hid (∀ ad, A' = some ad → w.heap.size ≤ ad.block) := by
  match l, hn with
  | [], hn =>
    obtain rfl : n = 0 := hn.symm
    refine (Try.bytes_Join_none A c _ w).mono ?_
    rintro e w' ⟨rfl, rfl⟩
    exact ⟨_, 0, 0, rfl, ⟨rfl, Nat.le_refl _, Nat.zero_le _, .inr ⟨_, [], rfl, rfl, rfl, Rd.nil _ _, fun i h => by omega⟩⟩, (Chg.refl _ _).alloc _, fun ad e => by injection e with e; subst e; exact Nat.le_refl _⟩
  | [r], hn =>
    obtain rfl : n = 1 := hn.symm
    obtain ⟨ad, rfl, hc⟩ := hr 0 r.v rfl
    rw [add_zero_spot] at hc
    have hpl := addr_plain hc
    have hq := hrow r (List.mem_singleton.2 rfl)
    rcases hp : r.p with _ | ⟨x, p⟩
    · have hc' : w.cell? ⟨ad.block, ad.off, none⟩ = some (.slice r.A 0 r.c) := by
        rw [← hpl, hc, Row.v, hp]; rfl
      rw [hpl]
      refine (Try.bytes_Join_one_empty ad.block ad.off c r.A r.c _ w hc').mono ?_
      rintro e w' ⟨rfl, rfl⟩
      refine ⟨none, 0, 0, rfl, ?_, Chg.refl _ _, fun ad e => by cases e⟩
      rw [show ([r].map (·.p)).flatten = [] by simp [hp]]
      exact Room.none _
    · obtain ⟨ad0, hA0, hc0⟩ := hq 0 (u8v x) (by rw [hp]; rfl)
      have hc' : w.cell? ⟨ad.block, ad.off, none⟩ = some (.slice (some ad0) r.p.length r.c) := by rw [← hpl, hc, Row.v, hA0]
      rw [hpl]
      refine (Try.bytes_Join_one ad.block ad.off c ad0 r.c r.p _ w hc' ?_ (by rw [hp]; simp) (by simp [Lib.lens] at hx; omega)).mono ?_
      · intro i y hy
        obtain ⟨ad1, e1, h1⟩ := hq i (u8v y) (by simp [bs, hy])
        rw [hA0] at e1
        injection e1 with e1
        subst e1
        exact h1
      rintro e w' ⟨v', rfl, hf, hb⟩
      obtain ⟨A', n', c', rfl, h1, h2⟩ := Room.of_fresh hf
      refine ⟨A', n', c', rfl, ?_, Chg.of_below hb _, h2⟩
      rw [show ([r].map (·.p)).flatten = r.p by simp]
      exact h1
  | r1 :: r2 :: l, hn =>
    obtain ⟨ad, rfl, hc⟩ := hr 0 r1.v rfl
    rw [add_zero_spot] at hc
    have hpl := addr_plain hc
    rw [hpl] at hr ⊢
    have hP : Lib.PartsAt w ⟨ad.block, ad.off, none⟩ (rowsV (r1 :: r2 :: l)) ((r1 :: r2 :: l).map (·.p)) := by
      refine ⟨by simp [rowsV], fun i v hv => ?_, fun i v p hv hp => ?_⟩
      · obtain ⟨ad1, e1, h1⟩ := hr i v hv
        injection e1 with e1
        subst e1
        exact h1
      · simp only [rowsV, List.getElem?_map, Option.map_eq_some_iff] at hv hp
        obtain ⟨r, hr1, rfl⟩ := hv
        obtain ⟨r', hr2, rfl⟩ := hp
        rw [hr1] at hr2
        injection hr2 with hr2
        subst hr2
        exact holds_row (hrow r (List.mem_of_getElem? hr1))
    refine (Try.bytes_Join_many ad.block ad.off n c _ ((r1 :: r2 :: l).map (·.p)) _ [] w (by rw [List.length_map, hn]) (by simp at hn; omega) hP hcap ⟨none, 0, rfl, fun _ => rfl, fun a e => by cases e⟩ hn47 (by simpa using hx)).mono ?_
    rintro e w' ⟨v', rfl, hf, hb⟩
    obtain ⟨A', n', c', rfl, h1, h2⟩ := Room.of_fresh hf
    rw [join_flat] at h1
    exact ⟨A', n', c', rfl, h1, Chg.of_below hb _, h2⟩
end Go.Proofs.Ytegdihpnefoolaa
end
section
open Go Go.RowKit
namespace Go.Proofs.Ytegdihpnefoolaa
/-- rows that can be read, off the row of their headers -/
def RowsIn (w : World) (L : Option Addr) (l : List Row) : Prop := ∀ r ∈ l, Rd w r.A (bs r.p) ∧ ∀ ad, r.A = some ad → ad.block < w.heap.size ∧ ¬ rowOf L ad.block
theorem RowsIn.next {w w' : World} {L L' : Option Addr} {l : List Row} (h : RowsIn w L l) (c : Chg (rowOf L) w w') (g : L' = L ∨ L' = some ⟨w.heap.size, 0, none⟩) : RowsIn w' L' l := fun r hr => by
  obtain ⟨h1, h2⟩ := h r hr
  refine ⟨h1.chg c (fun _ ad e => (h2 ad e).2), fun ad e => ⟨Nat.lt_of_lt_of_le (h2 ad e).1 c.size, ?_⟩⟩
  rcases g with rfl | rfl
  · exact (h2 ad e).2
  · rintro ⟨ad', e', hk⟩
    injection e' with e'
    subst e'
    have := (h2 ad e).1
    have hk' : w.heap.size = ad.block := hk
    omega
theorem RowsIn.calm {w w' : World} {L : Option Addr} {l : List Row} (h : RowsIn w L l) (c : Chg nowhere w w') : RowsIn w' L l := h.next (c.mono (fun _ _ h => h.elim)) (.inl rfl)
theorem RowsIn.snoc {w : World} {L : Option Addr} {l : List Row} {r : Row} (h : RowsIn w L l) (h1 : Rd w r.A (bs r.p)) (h2 : ∀ ad, r.A = some ad → ad.block < w.heap.size ∧ ¬ rowOf L ad.block) : RowsIn w L (l ++ [r]) := fun q hq => by
  rcases List.mem_append.1 hq with hq | hq
  · exact h q hq
  · obtain rfl := List.mem_singleton.1 hq
    exact ⟨h1, h2⟩
theorem Read_at (g p N : Nat) (s : FS) (x : Int) (j : Nat) (w : World) (h : FlashAt w g p N s) (hx : x = (j : Int)) (hj : j < N) :
    Calls Try.prog 23 #[.pointer (some ⟨g, 0, none⟩), .int .i64 x] w fun e w' => ∃ A c, e = .returned (.tuple #[.slice A 64 c, .int .i64 0]) ∧ HO w' 5 1 A 64 c (bs (s.page j)) ∧ Step nowhere w w' ∧ NewA w A := by
  subst hx
  exact (Read_yes g p N s j w h hj).mono fun _ _ ⟨A, c, h1, h2, h3, h4⟩ => ⟨A, c, h1, ⟨h2.out⟩, ⟨h3.out⟩, ⟨h4.out⟩⟩
theorem own_nil (w : World) (e : TypeId) (size : Nat) : HO w e size none 0 0 (cellsOf ([] : List Row)) := ⟨Own.nil _ _ _⟩
set_option maxRecDepth 100000 in
set_option maxHeartbeats 800000 in
theorem oJoin_calls {A : Option Addr} {n c : Nat} {l : List Row} {w : World} [hr : HR w A (cellsOf l)] (hn : l.length = n) (hcap : n ≤ c) (hrow : RowsOk w l) (hx : Lib.lens (l.map (·.p)) ≤ 140737488355328) (hn47 : n ≤ 140737488355328) :
    Calls Try.prog 86 #[.slice A n c] w fun e w' => ∃ A' n' c', e = .returned (.slice A' n' c') ∧ ((l.map (·.p)).flatten).length = n' ∧ n' ≤ c' ∧ HR w' A' (bs (l.map (·.p)).flatten) ∧ Step nowhere w w' := by
  have HR1 := Lib.hid hr.out
  have HRW := Lib.hid hrow
  have HX := Lib.hid hx
  have HN := Lib.hid hn
  clear hrow hx hn
  go_enter Try.func86, Try.ntmps86
  go_wp2_with fail
  refine (bJoin_calls A n c l w (by rw [← cellsOf_rows]; exact HR1.out) HN.out hcap HRW.out HX.out hn47).mono ?_
  rintro e w1 ⟨A', n', c', rfl, h1, h2, h3⟩
  go_wp2_with fail
  go_ret
  exact ⟨A', n', c', rfl, h1.out.len, h1.out.le, ⟨h1.out.rd⟩, ⟨h2.out⟩⟩
theorem lens_flat (ls : List (List UInt8)) : Lib.lens ls = ls.flatten.length := by
  induction ls with
  | nil => rfl
  | cons x l ih =>
    rw [List.flatten_cons, List.length_append, ← ih]
    rfl
set_option maxRecDepth 100000 in
set_option maxHeartbeats 1600000 in
theorem slRead_calls {g p N : Nat} {s : FS} (i : Nat) {w : World} (hF : FlashAt w g p N s) (hN : 80 ≤ N) (hi : i < 2) :
    Calls Try.prog 68 #[.pointer (some ⟨g, 0, none⟩), .int .i64 (i : Int)] w fun e w' => ∃ A n c, e = .returned (.slice A n c) ∧ (slotB s i).length = n ∧ n ≤ c ∧ HR w' A (bs (slotB s i)) ∧ Step nowhere w w' := by
  have HF := Lib.hid hF
  have hok := Lib.hid hF.ok
  have hiI : (i : Int) < 2 := by omega
  clear hF
  go_enter Try.func68, Try.ntmps68
  go_wp2_with fail
  go_loopw [5, 9] (fun av iv wr => ∃ (k : Nat) (L : Option Addr) (cL : Nat) (l : List Row), k ≤ 40 ∧ iv = .int .i64 (k : Int) ∧ av = .slice L k cL ∧ Step nowhere w wr ∧ HO wr 22 1 L k cL (cellsOf l) ∧ NewA w L ∧ Hid (RowsIn wr L l) ∧ Hid (l.length = k ∧ l.map (·.p) = (List.range k).map fun j => s.page (i * 40 + j)) ∧ k ≤ cL) (fun _ iv _ => 40 - (intOf iv).toNat)
  case atStart => exact ⟨0, none, 0, [], Nat.zero_le _, rfl, rfl, stepN, own_nil _ _ _, ⟨fun ad e => by cases e⟩, Lib.hid (fun r hr => by cases hr), Lib.hid ⟨rfl, rfl⟩, Nat.le_refl _⟩
  case round =>
    obtain ⟨k, L, cL, l, hk, rfl, rfl, _, hL, hnL, HRI, HLK, hcL⟩ := hrel
    by_cases hlt : k < 40
    · have hltI : (k : Int) < 40 := by omega
      have hj : i * 40 + k < N := by omega
      have HPL := Lib.hid (FS.page_len hok.out hj)
      go_wp2_with (first | fail)
      refine (Read_at g p N s _ (i * 40 + k) _ (HF.out.calm (stepN (w0 := w)).chg) (by go_num) hj).mono ?_
      rintro e w5 ⟨A, c, rfl, hA, _, hnA⟩
      have kbr := run_row1 A 64 c
      have hk1 : k + 1 ≤ 1000000000 := by omega
      have oLA : OffA (rowOf L) A := inferInstance
      go_wp2_with (first | ((with_reducible apply (stop_dst (dst := some 23))); (try simp only [Act.put, sA, sB, sC]); ((with_reducible apply (wpl_bslice (dst := some 23))); (exact kbr _); intro zr wb _ _ _)) | ((with_reducible apply (wpl_appendR (α := Row))); (exact rfl); (exact rfl); infer_instance; infer_instance; (exact rowRow (r := ⟨A, c, s.page (i * 40 + k)⟩) HPL.out inferInstance); (exact rfl); (exact rfl); (exact hk1); (decide); (decide); intro L2 cL2 wa _ _ _ hcap2))
      have g2 := (inferInstance : Grew wb L L2).out
      have r1 : RowsIn wb L (l ++ [⟨A, c, s.page (i * 40 + k)⟩]) := (HRI.out.calm (stepN (w0 := wr) (w := wb)).chg).snoc (inferInstance : HR wb A (bs (s.page (i * 40 + k)))).out (fun ad e => ⟨(inferInstance : HO wb 5 1 A 64 c (bs (s.page (i * 40 + k)))).out.lt e, oLA.out ad e⟩)
      have r2 := Lib.hid (r1.next (inferInstance : Step (rowOf L) wb wa).chg g2)
      have e1 : (l ++ [(⟨A, c, s.page (i * 40 + k)⟩ : Row)]).length = k + 1 ∧ (l ++ [(⟨A, c, s.page (i * 40 + k)⟩ : Row)]).map (·.p) = (List.range (k + 1)).map fun j => s.page (i * 40 + j) := by
        rw [List.length_append, List.map_append, HLK.out.1, HLK.out.2, List.range_succ, List.map_append]
        exact ⟨rfl, rfl⟩
      have E1 := Lib.hid e1
      clear g2 r1 e1
      exact ⟨⟨k + 1, L2, cL2, l ++ [⟨A, c, s.page (i * 40 + k)⟩], by omega, by go_num, rfl, stepN, inferInstance, inferInstance, r2, E1, hcap2⟩, by simp [intOf]; omega⟩
    · have hltI : ¬ (k : Int) < 40 := by omega
      obtain rfl : k = 40 := by omega
      have hfl : (l.map (·.p)).flatten = slotB s i := by rw [HLK.out.2]; exact slot_flat hok.out hN i hi
      have hlen := slotB_len hok.out hN i hi
      go_wp2_with (first | fail)
      refine (oJoin_calls (l := l) HLK.out.1 hcL (fun r hr => (HRI.out r hr).1) (by rw [lens_flat, hfl, hlen]; decide) (by decide)).mono ?_
      rw [hfl]
      rintro e w5 ⟨A', n', c', rfl, h1, h2, _, _⟩
      go_wp2_with (first | fail)
      go_ret
      exact ⟨A', n', c', rfl, h1, h2, inferInstance, stepN⟩
end Go.Proofs.Ytegdihpnefoolaa
end
