/- Join, Room, KyC, DgX, DgL, KyM, KyN, KyP -/
import Derived.Test.YtmnapacibpnodaaGreatUeBase
import Derived.Test.YtmnapacibpnodaaGreatShelf
import Derived.Test.YtmnapacibpnodaaGreatUeKyB
import Derived.Test.YtmnapacibpnodaaGreatUeHashes
import Derived.Test.YtmnapacibpnodaaGreatUeDig
import Derived.Stop.BytesEq
import Derived.Deep.RegionWith
import Derived.Test.YtmnapacibpnodaaGreatUeOcRfC
import Derived.Test.YtmnapacibpnodaaGreatUeRrB
section
open Go Go.RowKit
namespace Go.Proofs.YtmnapacibpnodaaGreat
theorem bs_bytesOf (zs : List Int) (h : ∀ x ∈ zs, 0 ≤ x ∧ x < 256) : bs (Lib.bytesOf zs) = zs.map (.int .u8) := by
  unfold bs Lib.bytesOf
  rw [List.map_map]
  apply List.map_congr_left
  intro x hx
  have := h x hx
  simp [u8v]
  omega
/-- fresh bytes, with room behind them -/
structure Room (w : World) (A : Option Addr) (n c : Nat) (xs : List UInt8) : Prop where
  len : xs.length = n
  le : n ≤ c
  max : c ≤ maxLen
  at_ : (A = none ∧ c = 0) ∨ ∃ (g : Nat) (zs : List UInt8), A = some ⟨g, 0, none⟩ ∧ zs.length = c ∧ zs.take n = xs ∧ Rd w A (bs zs) ∧ ∀ i, i < c → w.frozen? ⟨g, i, none⟩ = false
theorem Room.rd {w : World} {A : Option Addr} {n c : Nat} {xs : List UInt8} (h : Room w A n c xs) : Rd w A (bs xs) := by
  rcases h.at_ with ⟨_, h0⟩ | ⟨g, zs, _, _, ht, hr, _⟩
  · have h1 := h.len
    have h2 := h.le
    have : xs = [] := List.eq_nil_of_length_eq_zero (by omega)
    subst this
    exact Rd.nil _ _
  · rw [← ht, ← bs_take]
    exact hr.take n
theorem Room.none (w : World) : Room w none 0 0 [] := ⟨rfl, Nat.le_refl _, Nat.zero_le _, .inl ⟨rfl, rfl⟩⟩
theorem Room.of_fresh {B : Nat} {w : World} {v : Value} {l : List UInt8} (h : Lib.FreshBytes B w v l) : ∃ A n c, v = .slice A n c ∧ Room w A n c l ∧ ∀ ad, A = some ad → B ≤ ad.block := by
  obtain ⟨g, cap, zs, rfl, hB, hle, hm, hz, hrng, hb, hc, hf⟩ := h
  refine ⟨_, _, _, rfl, ⟨rfl, hle, hm, .inr ⟨g, Lib.bytesOf zs, rfl, by simpa [Lib.bytesOf] using hz, ?_, ?_, hf⟩⟩, fun ad e => by injection e with e; subst e; exact hB⟩
  · conv => rhs; rw [← hb]
    unfold Lib.bytesOf
    exact List.map_take.symm
  · rw [bs_bytesOf zs hrng]
    intro k u hk
    refine ⟨_, rfl, ?_⟩
    have hk' : k < zs.length := by simpa using (List.getElem?_eq_some_iff.1 hk).1
    rw [add_row, hc k (by omega)]
    simp only [List.getElem?_map, List.getElem?_eq_getElem hk', Option.map_some, Option.some.injEq] at hk
    rw [← hk, List.getD_eq_getElem?_getD, List.getElem?_eq_getElem hk']
    rfl
theorem addr_plain {w : World} {a : Addr} {v : Value} (h : w.cell? a = some v) : a = ⟨a.block, a.off, none⟩ := by
  rcases a with ⟨b, o, s⟩
  cases s with
  | none => rfl
  | some x =>
    unfold World.cell? at h
    split at h
    · simp at h
    · cases h
theorem holds_row {w : World} {r : Row} (h : Rd w r.A (bs r.p)) : Lib.HoldsBytes w r.v r.p := by
  refine ⟨r.A, r.c, rfl, fun hn => ?_, fun a ha i x hx => ?_⟩
  · rcases hp : r.p with _ | ⟨x, l⟩
    · rfl
    · obtain ⟨ad, e, _⟩ := h 0 (u8v x) (by rw [hp]; rfl)
      rw [hn] at e
      cases e
  · obtain ⟨ad, e, hc⟩ := h i (u8v x) (by simp [bs, hx])
    rw [ha] at e
    injection e with e
    subst e
    exact hc
theorem join_flat (ls : List (List UInt8)) : Lib.join ls [] = ls.flatten := by
  cases ls with
  | nil => rfl
  | cons x r =>
    rw [Lib.join_cons]
    unfold Lib.joinTail
    simp
set_option maxRecDepth 100000 in
theorem bJoin_calls (A : Option Addr) (n c : Nat) (l : List Row) (w : World) (hr : Rd w A (rowsV l)) (hn : l.length = n) (hcap : n ≤ c) (hrow : RowsOk w l) (hx : Lib.lens (l.map (·.p)) ≤ 140737488355328) (hn47 : n ≤ 140737488355328) :
    Calls Tryz.prog 83 #[.slice A n c, .slice none 0 0] w fun e w' => ∃ A' n' c', e = .returned (.slice A' n' c') ∧ Hid (Room w' A' n' c' (l.map (·.p)).flatten) ∧ Hid (Chg nowhere w w') ∧ Hid (∀ ad, A' = some ad → w.heap.size ≤ ad.block) := by
  match l, hn with
  | [], hn =>
    obtain rfl : n = 0 := hn.symm
    refine (Tryz.bytes_Join_none A c _ w).mono ?_
    rintro e w' ⟨rfl, rfl⟩
    exact ⟨_, 0, 0, rfl, ⟨rfl, Nat.le_refl _, Nat.zero_le _, .inr ⟨_, [], rfl, rfl, rfl, Rd.nil _ _, fun i h => by omega⟩⟩, (Chg.refl _ _).alloc _, fun ad e => by injection e with e; subst e; exact Nat.le_refl _⟩
  | [r], hn =>
    obtain rfl : n = 1 := hn.symm
    obtain ⟨ad, rfl, hc⟩ := hr 0 r.v rfl
    rw [add_zero_spot] at hc
    have hpl := addr_plain hc
    have hq := hrow r (List.mem_singleton.2 rfl)
    rcases hp : r.p with _ | ⟨x, p⟩
    · have hc' : w.cell? ⟨ad.block, ad.off, none⟩ = some (.slice r.A 0 r.c) := by
        rw [← hpl, hc, Row.v, hp]; rfl
      rw [hpl]
      refine (Tryz.bytes_Join_one_empty ad.block ad.off c r.A r.c _ w hc').mono ?_
      rintro e w' ⟨rfl, rfl⟩
      refine ⟨none, 0, 0, rfl, ?_, Chg.refl _ _, fun ad e => by cases e⟩
      rw [show ([r].map (·.p)).flatten = [] by simp [hp]]
      exact Room.none _
    · obtain ⟨ad0, hA0, hc0⟩ := hq 0 (u8v x) (by rw [hp]; rfl)
      have hc' : w.cell? ⟨ad.block, ad.off, none⟩ = some (.slice (some ad0) r.p.length r.c) := by rw [← hpl, hc, Row.v, hA0]
      rw [hpl]
      refine (Tryz.bytes_Join_one ad.block ad.off c ad0 r.c r.p _ w hc' ?_ (by rw [hp]; simp) (by simp [Lib.lens] at hx; omega)).mono ?_
      · intro i y hy
        obtain ⟨ad1, e1, h1⟩ := hq i (u8v y) (by simp [bs, hy])
        rw [hA0] at e1
        injection e1 with e1
        subst e1
        exact h1
      rintro e w' ⟨v', rfl, hf, hb⟩
      obtain ⟨A', n', c', rfl, h1, h2⟩ := Room.of_fresh hf
      refine ⟨A', n', c', rfl, ?_, Chg.of_below hb _, h2⟩
      rw [show ([r].map (·.p)).flatten = r.p by simp]
      exact h1
  | r1 :: r2 :: l, hn =>
    obtain ⟨ad, rfl, hc⟩ := hr 0 r1.v rfl
    rw [add_zero_spot] at hc
    have hpl := addr_plain hc
    rw [hpl] at hr ⊢
    have hP : Lib.PartsAt w ⟨ad.block, ad.off, none⟩ (rowsV (r1 :: r2 :: l)) ((r1 :: r2 :: l).map (·.p)) := by
      refine ⟨by simp [rowsV], fun i v hv => ?_, fun i v p hv hp => ?_⟩
      · obtain ⟨ad1, e1, h1⟩ := hr i v hv
        injection e1 with e1
        subst e1
        exact h1
      · simp only [rowsV, List.getElem?_map, Option.map_eq_some_iff] at hv hp
        obtain ⟨r, hr1, rfl⟩ := hv
        obtain ⟨r', hr2, rfl⟩ := hp
        rw [hr1] at hr2
        injection hr2 with hr2
        subst hr2
        exact holds_row (hrow r (List.mem_of_getElem? hr1))
    refine (Tryz.bytes_Join_many ad.block ad.off n c _ ((r1 :: r2 :: l).map (·.p)) _ [] w (by rw [List.length_map, hn]) (by simp at hn; omega) hP hcap ⟨none, 0, rfl, fun _ => rfl, fun a e => by cases e⟩ hn47 (by simpa using hx)).mono ?_
    rintro e w' ⟨v', rfl, hf, hb⟩
    obtain ⟨A', n', c', rfl, h1, h2⟩ := Room.of_fresh hf
    rw [join_flat] at h1
    exact ⟨A', n', c', rfl, h1, Chg.of_below hb _, h2⟩
end Go.Proofs.YtmnapacibpnodaaGreat
end
section
open Go Go.RowKit
namespace Go.Proofs.YtmnapacibpnodaaGreat
end Go.Proofs.YtmnapacibpnodaaGreat
end
section
open Go Go.RowKit
namespace Go.Proofs.YtmnapacibpnodaaGreat
instance HO.one (w : World) (z : Nat) (e : TypeId) (x : UInt8) [h : HB w z e (u8s [x])] : HO w e 1 (some ⟨z, 0, none⟩) 1 1 (bs [x]) := ⟨Own.of_blk h.out (Nat.le_refl _) (by decide) rfl rfl⟩
def isS (leaf : Int) (n m : Nat) : Bool := decide (0 ≤ leaf) && decide (leaf < 16) && decide (n = 36) && decide (m = 4)
theorem isS_0 (leaf : Int) (n m : Nat) (h : ¬ 0 ≤ leaf) : isS leaf n m = false := by simp [isS, h]
theorem isS_1 (leaf : Int) (n m : Nat) (_ : 0 ≤ leaf) (h : ¬ leaf < 16) : isS leaf n m = false := by simp [isS, h]
theorem isS_2 (leaf : Int) (n m : Nat) (_ : 0 ≤ leaf) (_ : leaf < 16) (h : ¬ n = 36) : isS leaf n m = false := by simp [isS, h]
theorem isS_3 (leaf : Int) (n m : Nat) (_ : 0 ≤ leaf) (_ : leaf < 16) (_ : n = 36) (h : ¬ m = 4) : isS leaf n m = false := by simp [isS, h]
theorem isS_4 (leaf : Int) (n m : Nat) (h1 : 0 ≤ leaf) (h2 : leaf < 16) (h3 : n = 36) (h4 : m = 4) : isS leaf n m = true := by simp [isS, h1, h2, h3, h4]
set_option maxRecDepth 100000 in
theorem is_calls {leaf : Int} {A B : Option Addr} {n c m d : Nat} (w : World) :
    Calls Tryz.prog 117 #[.agg #[.int .i64 leaf, .slice A n c, .slice B m d]] w fun e w' => e = .returned (.bool (isS leaf n m)) ∧ Step nowhere w w' := by
  have q1 := isS_0 leaf n m
  have q2 := isS_1 leaf n m
  have q3 := isS_2 leaf n m
  have q4 := isS_3 leaf n m
  have q5 := isS_4 leaf n m
  by_cases h1 : 0 ≤ leaf
  rotate_left
  · have e1 : ¬ (0 : Int) ≤ leaf := by omega
    rw [q1 h1]
    clear q1 q2 q3 q4 q5 h1
    go_enter Tryz.func117, Tryz.ntmps117
    go_wp2_with (first | go_skip | ((with_reducible apply (wpl_box_agg (dst := some 1))); (exact rfl); intro zs wzs _ _ _) | ((with_reducible apply wpl_loadcellN); (exact rfl); infer_instance; (exact rfl)))
    go_ret
    exact ⟨rfl, stepN⟩
  have e1 : (0 : Int) ≤ leaf := by omega
  by_cases h2 : leaf < 16
  rotate_left
  · have e2 : ¬ leaf < (16 : Int) := by omega
    rw [q2 h1 h2]
    clear q1 q2 q3 q4 q5 h1 h2
    go_enter Tryz.func117, Tryz.ntmps117
    go_wp2_with (first | go_skip | ((with_reducible apply (wpl_box_agg (dst := some 1))); (exact rfl); intro zs wzs _ _ _) | ((with_reducible apply (wpl_guard (op := .load _ _))); (exact rfl)) | ((with_reducible apply wpl_loadcellN); (exact rfl); infer_instance; (exact rfl)))
    go_ret
    exact ⟨rfl, stepN⟩
  have e2 : leaf < (16 : Int) := by omega
  by_cases h3 : n = 36
  rotate_left
  · have e3 : ((n : Int) == 36) = false := by simp; omega
    rw [q3 h1 h2 h3]
    clear q1 q2 q3 q4 q5 h1 h2 h3
    go_enter Tryz.func117, Tryz.ntmps117
    go_wp2_with (first | go_skip | ((with_reducible apply (wpl_box_agg (dst := some 1))); (exact rfl); intro zs wzs _ _ _) | ((with_reducible apply (wpl_guard (op := .load _ _))); (exact rfl)) | ((with_reducible apply wpl_loadcellN); (exact rfl); infer_instance; (exact rfl)))
    go_ret
    exact ⟨rfl, stepN⟩
  have e3 : ((n : Int) == 36) = true := by simp; omega
  by_cases h4 : m = 4
  rotate_left
  · have e4 : ((m : Int) == 4) = false := by simp; omega
    rw [q4 h1 h2 h3 h4]
    clear q1 q2 q3 q4 q5 h1 h2 h3 h4
    go_enter Tryz.func117, Tryz.ntmps117
    go_wp2_with (first | ((with_reducible apply (wpl_box_agg (dst := some 1))); (exact rfl); intro zs wzs _ _ _) | ((with_reducible apply (wpl_guard (op := .load _ _))); (exact rfl)) | ((with_reducible apply wpl_loadcellN); (exact rfl); infer_instance; (exact rfl)))
    go_ret
    exact ⟨rfl, stepN⟩
  have e4 : ((m : Int) == 4) = true := by simp; omega
  rw [q5 h1 h2 h3 h4]
  clear q1 q2 q3 q4 q5 h1 h2 h3 h4
  go_enter Tryz.func117, Tryz.ntmps117
  go_wp2_with (first | ((with_reducible apply (wpl_box_agg (dst := some 1))); (exact rfl); intro zs wzs _ _ _) | ((with_reducible apply (wpl_guard (op := .load _ _))); (exact rfl)) | ((with_reducible apply wpl_loadcellN); (exact rfl); infer_instance; (exact rfl)))
  go_ret
  exact ⟨rfl, stepN⟩
def sameS (la : Int) (l1 l2 : List H32) (lb : Int) (m1 m2 : List H32) : Bool := decide (la = lb) && decide (l1 = m1) && decide (l2 = m2)
def nameS (r : H32) : H32 := shaH (4 :: r.l)
set_option maxRecDepth 100000 in
theorem join2_calls {zr : Nat} {A B : Option Addr} {n c m d : Nat} {xs ys : List UInt8} {w : World} {t : TypeId} [hb : HB w zr t #[.slice A n c, .slice B m d]] [h1 : HR w A (bs xs)] [h2 : HR w B (bs ys)] (hx : xs.length = n) (hy : ys.length = m) (hm : n + m ≤ 1000000000) :
    Calls Tryz.prog 84 #[.slice (some ⟨zr, 0, none⟩) 2 2] w fun e w' => ∃ A' n' c', e = .returned (.slice A' n' c') ∧ Step nowhere w w' ∧ HR w' A' (bs (xs ++ ys)) ∧ (xs ++ ys).length = n' ∧ n' ≤ c' := by
  have HX := Lib.hid hx
  have HY := Lib.hid hy
  clear hx hy
  go_enter Tryz.func84, Tryz.ntmps84
  go_wp2_with fail
  refine (bJoin_calls (some ⟨zr, 0, none⟩) 2 2 [⟨A, c, xs⟩, ⟨B, d, ys⟩] _ ?_ rfl (Nat.le_refl _) ?_ ?_ (by decide)).mono ?_
  · show Rd _ _ [.slice A xs.length c, .slice B ys.length d]
    rw [HX.out, HY.out]
    exact (HR.ofBlkL hb).out
  · intro r hr
    simp only [List.mem_cons, List.not_mem_nil, or_false] at hr
    rcases hr with rfl | rfl
    · exact h1.out
    · exact h2.out
  · have e1 := HX.out
    have e2 := HY.out
    simp [Lib.lens]
    omega
  rintro e w6 ⟨A6, n6, c6, rfl, h6, hc6, hg6⟩
  rw [show ([⟨A, c, xs⟩, ⟨B, d, ys⟩] : List Row).map (·.p) = [xs, ys] from rfl, show [xs, ys].flatten = xs ++ ys by simp] at h6
  have s6 : Step nowhere w w6 := ⟨hc6.out⟩
  have r6 : HR w6 A6 (bs (xs ++ ys)) := ⟨h6.out.rd⟩
  have l6 := h6.out.len
  have c6' := h6.out.le
  have L6 := Lib.hid l6
  have C6 := Lib.hid c6'
  clear h6 hc6 hg6 l6 c6'
  go_wp2_with fail
  go_ret
  exact ⟨A6, n6, c6, rfl, stepN, inferInstance, L6.out, C6.out⟩
set_option maxRecDepth 100000 in
theorem name_calls (r : H32) (w : World) :
    Calls Tryz.prog 53 #[.agg (u8s r.l)] w fun e w' => e = .returned (.agg (u8s (nameS r).l)) ∧ Step nowhere w w' := by
  have kb4 : ∀ w, (Instr.buildSlice 34 1 #[(0, .int .u8 4)]).run Tryz.prog w = .ok (.slice (some ⟨w.heap.size, 0, none⟩) 1 1) (w.alloc (.cells (u8s [4]) 5)) := fun _ => by kernel_rfl
  have kbR : ∀ z3 z1 w, (Instr.buildSlice 152 2 #[(0, .slice (some ⟨z3, 0, none⟩) 1 1), (1, .slice (some ⟨z1, 0, none⟩) 32 32)]).run Tryz.prog w = .ok (.slice (some ⟨w.heap.size, 0, none⟩) 2 2) (w.alloc (.cells #[.slice (some ⟨z3, 0, none⟩) 1 1, .slice (some ⟨z1, 0, none⟩) 32 32] 34)) := fun _ _ _ => by kernel_rfl
  obtain ⟨R, hR⟩ : ∃ R, R = nameS r := ⟨_, rfl⟩
  have HR0 := Lib.hid hR
  rw [← hR]
  clear hR
  go_enter Tryz.func53, Tryz.ntmps53
  go_wp2_with (first | ((with_reducible apply (stop_dst (dst := some 3))); (try simp only [Act.put, sA, sB, sC]); ((with_reducible apply (wpl_bslice (dst := some 3))); (exact kb4 _); intro z3 wb _ _ _)) | ((with_reducible apply (stop_dst (dst := some 5))); (try simp only [Act.put, sA, sB, sC]); ((with_reducible apply (wpl_bslice (dst := some 5))); (exact kbR _ _ _); intro zr wb _ _ _)) | ((with_reducible apply (wpl_sliceAr (t := 26) (s := 1))); (exact rfl); (exact Tryz.underlying26); (kernel_rfl)) | ((with_reducible apply (wpl_box_agg (dst := some 1))); (exact rfl); intro z1 wz1 _ _ _) | ((with_reducible apply (wpl_alloc (dst := some 2))); intro zo wzo _ _ _))
  refine (join2_calls (xs := [4]) (ys := r.l) rfl r.len (by decide)).mono ?_
  rintro e w2 ⟨A2, n2, c2, rfl, _, _, hl2, hc2⟩
  have hn2 : n2 ≤ 1000 := by rw [← hl2, List.length_append, r.len]; decide
  have HL2 := Lib.hid hl2
  clear hl2
  go_wp2_with fail
  refine (sum_calls HL2.out hc2 (by omega)).mono ?_
  rw [show shaH ([4] ++ r.l) = R from HR0.out.symm]
  rintro e w3 ⟨rfl, _⟩
  go_wp2_with (first | ((with_reducible apply wpl_storerow); (exact rfl); (exact rfl); infer_instance; infer_instance; (first | (with_reducible assumption) | (with_reducible exact H32.size _) | kernel_rfl); (first | (with_reducible assumption) | (with_reducible exact H32.size _) | kernel_rfl); (first | (with_reducible exact u8s_one _) | (with_reducible assumption) | kernel_rfl); intro ws _ _))
  exact ret_row rfl rfl (n := 32) (H32.size _) rfl ⟨rfl, stepN⟩
set_option maxRecDepth 100000 in
theorem rname_calls (r : H32) (w : World) :
    Calls Tryz.prog 13 #[.agg (u8s r.l)] w fun e w' => e = .returned (.agg (u8s (nameS r).l)) ∧ Step nowhere w w' := by
  have kb4 : ∀ w, (Instr.buildSlice 34 1 #[(0, .int .u8 4)]).run Tryz.prog w = .ok (.slice (some ⟨w.heap.size, 0, none⟩) 1 1) (w.alloc (.cells (u8s [4]) 5)) := fun _ => by kernel_rfl
  obtain ⟨R, hR⟩ : ∃ R, R = nameS r := ⟨_, rfl⟩
  have HR0 := Lib.hid hR
  have HLL : Hid (([4] ++ r.l).length = 1 + 32) := Lib.hid (by rw [List.length_append, r.len]; rfl)
  rw [← hR]
  clear hR
  go_enter Tryz.func13, Tryz.ntmps13
  go_wp2_with (first | ((with_reducible apply (stop_dst (dst := some 3))); (try simp only [Act.put, sA, sB, sC]); ((with_reducible apply (wpl_bslice (dst := some 3))); (exact kb4 _); intro z3 wb _ _ _)) | ((with_reducible apply (wpl_sliceAr (t := 26) (s := 1))); (exact rfl); (exact Tryz.underlying26); (kernel_rfl)) | ((with_reducible apply (wpl_box_agg (dst := some 1))); (exact rfl); intro z1 wz1 _ _ _) | ((with_reducible apply (wpl_alloc (dst := some 2))); intro zo wzo _ _ _) | ((with_reducible apply wpl_appendB); (exact rfl); (exact rfl); infer_instance; (first | exact inferInstance | exact ⟨Own.nil _ _ _⟩); infer_instance; (first | (with_reducible assumption) | (with_reducible exact H32.len _) | (focus (simp; done)) | omega); (first | (with_reducible assumption) | omega); intro A' c' wa _ _ _ hcap))
  refine (rsum_calls HLL.out (by omega)).mono ?_
  rw [show shaH ([4] ++ r.l) = R from HR0.out.symm]
  rintro e w3 ⟨rfl, _⟩
  go_wp2_with (first | ((with_reducible apply wpl_storerow); (exact rfl); (exact rfl); infer_instance; infer_instance; (first | (with_reducible assumption) | (with_reducible exact H32.size _) | kernel_rfl); (first | (with_reducible assumption) | (with_reducible exact H32.size _) | kernel_rfl); (first | (with_reducible exact u8s_one _) | (with_reducible assumption) | kernel_rfl); intro ws _ _))
  exact ret_row rfl rfl (n := 32) (H32.size _) rfl ⟨rfl, stepN⟩
end Go.Proofs.YtmnapacibpnodaaGreat
end
section
open Go Go.RowKit
namespace Go.Proofs.YtmnapacibpnodaaGreat
def xorTo (xs : List UInt8) (b : UInt8) (k : Nat) : List UInt8 := (xs.take k).map (· ^^^ b) ++ xs.drop k
def keyOf (key : List UInt8) : List UInt8 := if key.length ≤ 64 then key ++ nots (64 - key.length) else sha key ++ nots 32
def macOf (key p : List UInt8) : List UInt8 := sha ((keyOf key).map (· ^^^ 0x5c) ++ sha ((keyOf key).map (· ^^^ 0x36) ++ p))
end Go.Proofs.YtmnapacibpnodaaGreat
end
section
open Go Go.RowKit
namespace Go.Proofs.YtmnapacibpnodaaGreat
set_option maxRecDepth 100000 in
set_option maxHeartbeats 800000 in
theorem link_calls (hs : List UInt8) (B : Option Addr) (m d : Nat) (p : List UInt8) (w : World) (hh : hs.length = 32) (hr2 : Rd w B (bs p)) (hm : p.length = m) (hm9 : m ≤ 10000000) :
    Calls Tryz.prog 52 #[.agg (u8s hs), .slice B m d] w fun e w' => e = .returned (.agg (u8s (sha (hs ++ p)))) ∧ Hid (Chg nowhere w w') := by
  have HH := Lib.hid hh
  have HR2 := Lib.hid hr2
  have HM := Lib.hid hm
  have HI25 := Lib.hid (show (Tryz.prog.info? 26).map (·.size) = some 32 by kernel_rfl)
  have HML : Hid ((u8s (sha (hs ++ p))).size = 32) := Lib.hid (by rw [u8s_size, sha_len])
  clear hh hr2 hm
  go_enter Tryz.func52, Tryz.ntmps52
  go_wp2_with fail
  obtain ⟨zh, hzh⟩ : ∃ z, z = w.heap.size := ⟨_, rfl⟩
  obtain ⟨z0, hz0⟩ : ∃ z, z = w.heap.size + 1 := ⟨_, rfl⟩
  obtain ⟨w2, hw2⟩ : ∃ w2, w2 = (w.alloc (.cells (u8s hs) 26)).alloc (.cells (u8s (nots 32)) 26) := ⟨_, rfl⟩
  have BH : Hid (Blk w2 zh 26 (u8s hs)) := Lib.hid (by rw [hw2, hzh]; exact (Blk.new w _ _).alloc _)
  have B0 : Hid (Blk w2 z0 26 (u8s (nots 32))) := Lib.hid (by rw [hw2, hz0]; exact Blk.new1 w _ _ _)
  have C2 : Hid (Chg nowhere w w2) := Lib.hid (by rw [hw2]; exact ((Chg.refl _ _).alloc _).alloc _)
  have hsz : w.heap.size + 1 + 1 = w2.heap.size := by rw [hw2]; simp
  change Calls _ _ _ (((w.alloc (.cells (u8s hs) 26)).alloc (.cells (u8s (nots 32)) 26)).alloc _) _
  rw [← hw2, hsz, ← hz0, ← hzh]
  have hzw : w.heap.size ≤ z0 := by omega
  clear hw2 hsz hz0 hzh
  refine (bJoin_calls _ 2 2 [⟨some ⟨zh, 0, none⟩, 32, hs⟩, ⟨B, d, p⟩] _ ?_ rfl (Nat.le_refl _) ?_ ?_ (by decide)).mono ?_
  · show Rd _ _ [.slice (some ⟨zh, 0, none⟩) hs.length 32, .slice B p.length d]
    rw [HH.out, HM.out]
    exact Rd.lit _ [_, _] _
  · intro r hr
    simp only [List.mem_cons, List.not_mem_nil, or_false] at hr
    rcases hr with rfl | rfl
    · exact (rd_u8s BH.out).alloc _
    · exact (HR2.out.later C2.out).alloc _
  · have h1 := HH.out
    have h2 := HM.out
    simp [Lib.lens]
    omega
  rintro e w6 ⟨A6, n6, c6, rfl, h6, hc6, hg6⟩
  rw [show ([⟨some ⟨zh, 0, none⟩, 32, hs⟩, ⟨B, d, p⟩] : List Row).map (·.p) = [hs, p] from rfl, show [hs, p].flatten = hs ++ p by simp] at h6
  have C6 := Lib.hid ((C2.out.alloc (.cells #[.slice (some ⟨zh, 0, none⟩) 32 32, .slice B m d] 34)).step hc6.out (fun _ h => h.elim))
  have B6 : Hid (Blk w6 z0 26 (u8s (nots 32))) := Lib.hid ((B0.out.alloc (.cells #[.slice (some ⟨zh, 0, none⟩) 32 32, .slice B m d] 34)).chg hc6.out (fun h => h))
  clear hc6 hg6
  go_wp2_with fail
  refine (dSum_calls A6 n6 c6 (hs ++ p) _ h6.out.rd h6.out.len h6.out.le (by have h1 := h6.out.len; have h2 := HH.out; have h3 := HM.out; simp at h1; omega)).mono ?_
  rintro e w7 ⟨rfl, hc7⟩
  have C7 := Lib.hid (C6.out.step hc7.out (fun _ h => h.elim))
  have B7 := Lib.hid (B6.out.chg hc7.out (fun h => h))
  clear hc7 h6
  go_wp2_with (refine wpList_store_row rfl 26 _ _ rfl z0 (u8s (sha (hs ++ p))) rfl rfl 26 _ B7.out (by rw [HML.out]; exact HI25.out) (by rw [HML.out]; rfl) (u8s_one _) ?_)
  refine bodyPost_ret (v := .agg (u8s (sha (hs ++ p)))) (results_cell_row rfl _ _ z0 26 _ (0, 0) _ rfl (B7.out.row_ _) Tryz.underlying26 rfl (by rw [HML.out]; exact HI25.out)) rfl ⟨rfl, ?_⟩
  exact C7.out.setRow (fun h => by omega) _
end Go.Proofs.YtmnapacibpnodaaGreat
end
section
open Go Go.RowKit
namespace Go.Proofs.YtmnapacibpnodaaGreat
def kflatH (l : List H32) : List UInt8 := l.flatMap (·.l)
def sigB (leaf : Int) (l p : List H32) : List UInt8 := encAll [leaf] ++ kflatH l ++ kflatH p
/-- what Encode answers -/
def KEncPost (ok : Bool) (bytes : List UInt8) (w : World) : Ending → World → Prop := fun e w' => Step nowhere w w' ∧
  if ok then ∃ A n c, e = .returned (.tuple #[.slice A n c, .int .i64 0]) ∧ n = bytes.length ∧ HO w' 5 1 A n c (bs bytes) ∧ NewA w A
  else e = .returned (.tuple #[.slice none 0 0, .int .i64 1])
instance iKyM_1 : ZeroT Tryz.prog 187 #[.slice none 0 0] := ⟨.agg #[.slice none 0 0], fun _ => by kernel_rfl, rfl⟩
end Go.Proofs.YtmnapacibpnodaaGreat
end
section
open Go Go.RowKit
namespace Go.Proofs.YtmnapacibpnodaaGreat
def RS.hash (s : RS) : H32 := if h : (s.raw 32).1.length = 32 then ⟨(s.raw 32).1, h⟩ else zeroH
def RS.hAt (s : RS) : Nat → RS
  | 0 => s
  | k + 1 => ((s.hAt k).raw 32).2
def RS.hs (s : RS) : Nat → List H32
  | 0 => []
  | k + 1 => s.hs k ++ [(s.hAt k).hash]
theorem cellsOf_flat (l : List H32) : cellsOf l = bs (kflatH l) := by
  induction l with
  | nil => rfl
  | cons h l ih =>
    show bs h.l ++ cellsOf l = bs (h.l ++ kflatH l)
    rw [ih, bs_append]
theorem HO.whole {w : World} {e : TypeId} {z n : Nat} {l : List H32} (h : HO w e 32 (some ⟨z, 0, none⟩) n n (cellsOf l)) : HB w z e (u8s (kflatH l)) := ⟨by
  rcases h.out.form with ⟨hn, _⟩ | ⟨g, cur, e1, hb, _, _, hsz, hx⟩
  · cases hn
  · injection e1 with e1
    injection e1 with e1
    subst e1
    have : cur = u8s (kflatH l) := by
      apply Array.ext'
      rw [List.take_of_length_le (by rw [Array.length_toList, hsz]; exact Nat.le_refl _)] at hx
      rw [hx, cellsOf_flat]
      simp [u8s]
    rw [← this]
    exact hb⟩
section
variable {P : Program} {ops : Array Oper} {a : Act} {w : World} {dst : Option Tmp} {ty : TypeId} {pos : String} {after : Array Edge} {gd : Option (Nat × Bool)}
end
def gz (g z : Nat) : Nat → Prop := fun x => x = g ∨ x = z
instance (w : World) (g z : Nat) : Sub w (only g) (gz g z) := ⟨fun _ _ h => .inl h⟩
instance (w : World) (g z : Nat) : Sub w (only z) (gz g z) := ⟨fun _ _ h => .inr h⟩
/-- the digests that are taken, and noughts for those that are not yet -/
def curH (s : RS) (n k : Nat) : List H32 := s.hs k ++ List.replicate (n - k) zeroH
end Go.Proofs.YtmnapacibpnodaaGreat
end
section
open Go Go.RowKit
namespace Go.Proofs.YtmnapacibpnodaaGreat
def dS1 (b : List UInt8) : RS := (⟨b, false⟩ : RS).num.2
def dLeaf (b : List UInt8) : Nat := (⟨b, false⟩ : RS).num.1
def dL (b : List UInt8) : List H32 := (dS1 b).hs 36
def dP (b : List UInt8) : List H32 := ((dS1 b).hAt 36).hs 4
def dS (b : List UInt8) : RS := ((dS1 b).hAt 36).hAt 4
def dWhole (b : List UInt8) : Bool := !(dS b).e && decide ((dS b).b = [])
def dOk (b : List UInt8) : Bool := dWhole b && isS (dLeaf b) 36 4
/-- what Decode answers -/
def KDecPost (b : List UInt8) (w : World) : Ending → World → Prop := fun e w' => Step nowhere w w' ∧
  if dOk b then ∃ A B c d, e = .returned (.tuple #[.agg #[.int .i64 (dLeaf b), .slice A 36 c, .slice B 4 d], .int .i64 0]) ∧ HO w' 26 32 A 36 c (cellsOf (dL b)) ∧ HO w' 26 32 B 4 d (cellsOf (dP b)) ∧ NewA w A ∧ NewA w B
  else e = .returned (.tuple #[.agg #[.int .i64 0, .slice none 0 0, .slice none 0 0], .int .i64 2])
end Go.Proofs.YtmnapacibpnodaaGreat
end
