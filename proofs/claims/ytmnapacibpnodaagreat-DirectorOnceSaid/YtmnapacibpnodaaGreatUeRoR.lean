/- UnB, RoA, RoR -/
import Derived.Test.YtmnapacibpnodaaGreatUeUnA
import Derived.Test.YtmnapacibpnodaaGreatUeSnM
import Derived.Test.YtmnapacibpnodaaGreatUeOcRfC
import Derived.Test.YtmnapacibpnodaaGreatUeRrB
section
open Go Go.RowKit
namespace Go.Proofs.YtmnapacibpnodaaGreat
set_option maxRecDepth 100000 in
set_option maxHeartbeats 1600000 in
theorem unlikeH_calls {A : Option Addr} {n c : Nat} {l : List H32} {w : World} [hr : HR w A (cellsOf l)] (hl : l.length = n) (hc : n ≤ c) (hmax : n ≤ 1000000000) :
    Calls Tryz.prog 169 #[.slice A n c] w fun e w' => e = .returned (.bool (allB l n)) ∧ Step nowhere w w' := by
  obtain ⟨R, hR⟩ : ∃ R, R = allB l n := ⟨_, rfl⟩
  have HRE := Lib.hid hR
  rw [← hR]
  clear hR
  go_enter Tryz.func169, Tryz.ntmps169
  go_wp2_with fail
  go_loopw [7] (fun kv wr => ∃ k : Nat, k ≤ n ∧ kv = .int .i64 (k : Int) ∧ Hid (allB l k = true) ∧ Step nowhere w wr) (fun kv _ => n - (intOf kv).toNat)
  case atStart => exact ⟨0, Nat.zero_le _, rfl, Lib.hid rfl, stepN⟩
  case round =>
    obtain ⟨k, hk, rfl, HA, _⟩ := hrel
    by_cases hlt : k < n
    · have hltI : (k : Int) < n := by omega
      have hkl : k < l.length := by omega
      have hkc : k ≤ c := by omega
      have hmt := mem_take_iff l k hkl
      have HTL : Hid ((l.take k).length = k) := Lib.hid (by rw [List.length_take]; omega)
      by_cases hfr : freshB l k k = true
      · have hnm : decide (hget l k ∈ l.take k) = false := decide_eq_false (by rw [hmt, hfr]; simp)
        have HNM := Lib.hid hnm
        have HA2 : Hid (allB l (k + 1) = true) := Lib.hid (by rw [allB, HA.out, hfr]; rfl)
        clear hnm hmt hfr
        go_wp2_with (first | ((with_reducible apply (wpl_alloc (dst := some 4))); intro zh wzh _ _ _) | ((with_reducible apply wpl_storerow); (exact rfl); (exact rfl); infer_instance; infer_instance; (first | (with_reducible assumption) | (with_reducible exact H32.size _) | kernel_rfl); (first | (with_reducible assumption) | (with_reducible exact H32.size _) | kernel_rfl); (first | (with_reducible exact u8s_one _) | (with_reducible assumption) | kernel_rfl); intro ws _ _) | ((with_reducible apply wpl_indexH); (exact rfl); (exact rfl); infer_instance; infer_instance; (first | (with_reducible assumption) | omega); (first | (with_reducible assumption) | omega); (first | (with_reducible assumption) | omega)) | ((with_reducible apply (wpl_loadhash (t := 26))); (exact rfl); infer_instance; infer_instance; (first | (with_reducible assumption) | omega)))
        refine wp_region_N (nowhere) (by kernel_rfl) (fun wd _ _ => ?_)
        refine' takeH (i := 0) (v := _) rfl (by kernel_rfl) (by kernel_rfl) (by kernel_rfl) (fun _ _ _ h => h) (yields_of (by rfl) (fun w' _ => ?_)) inferInstance ?_
        rotate_left
        · (go_simp; try with_reducible rfl)
        try simp only [Act.put, sA]; try simp only [sB, sC]
        refine' takeH (i := 1) (v := _) rfl (by kernel_rfl) (by kernel_rfl) (by kernel_rfl) (fun _ _ _ h => h) (yields_of (by rfl) (fun w' _ => ?_)) inferInstance ?_
        rotate_left
        · (go_simp; try with_reducible rfl)
        try simp only [Act.put, sA]; try simp only [sB, sC]
        refine' takeH (i := 2) (v := _) rfl (by kernel_rfl) (by kernel_rfl) (by kernel_rfl) (fun _ _ _ h => h) (yields_of (by rfl) (fun w' _ => ?_)) inferInstance ?_
        rotate_left
        · ((with_reducible apply ev_sl_h); (exact rfl); (exact rfl); infer_instance; (first | (with_reducible assumption) | omega))
        try simp only [Act.put, sA]; try simp only [sB, sC]
        refine' takeH (i := 3) (v := _) rfl (by kernel_rfl) (by kernel_rfl) (by kernel_rfl) (fun _ _ _ h => h) (yields_of (by rfl) (fun w' _ => ?_)) inferInstance ?_
        rotate_left
        · ((with_reducible apply ev_loadrow); (exact rfl); infer_instance; infer_instance; (first | (with_reducible assumption) | (with_reducible exact H32.size _) | kernel_rfl))
        try simp only [Act.put, sA]; try simp only [sB, sC]
        refine goH (i := 4) (by kernel_rfl) rfl (fun K_ hK_ => ?_)
        go_simp
        refine (hcontains_calls (l := l.take k) (hr := HR.takeR inferInstance k) (hget l k) HTL.out (by omega)).mono ?_
        rw [HNM.out]
        rintro e w2 ⟨rfl, _⟩
        refine hK_.out _ _ inferInstance (fun _ => ?_)
        clear hK_ K_
        try simp only [Act.put, sA]; try simp only [sB, sC]
        refine wpAnyH_done (by kernel_rfl) ?_ _
        go_wp2_with fail
        exact ⟨⟨k + 1, by omega, by go_num, HA2, stepN⟩, by simp [intOf]; omega⟩
      · have hnm : decide (hget l k ∈ l.take k) = true := decide_eq_true (by rw [hmt]; simpa using hfr)
        have HNM := Lib.hid hnm
        have HF : Hid (R = false) := Lib.hid (by rw [HRE.out]; exact allB_false l k (by simpa using hfr) n hlt)
        clear hnm hmt hfr
        go_wp2_with (first | ((with_reducible apply (wpl_alloc (dst := some 4))); intro zh wzh _ _ _) | ((with_reducible apply wpl_storerow); (exact rfl); (exact rfl); infer_instance; infer_instance; (first | (with_reducible assumption) | (with_reducible exact H32.size _) | kernel_rfl); (first | (with_reducible assumption) | (with_reducible exact H32.size _) | kernel_rfl); (first | (with_reducible exact u8s_one _) | (with_reducible assumption) | kernel_rfl); intro ws _ _) | ((with_reducible apply wpl_indexH); (exact rfl); (exact rfl); infer_instance; infer_instance; (first | (with_reducible assumption) | omega); (first | (with_reducible assumption) | omega); (first | (with_reducible assumption) | omega)) | ((with_reducible apply (wpl_loadhash (t := 26))); (exact rfl); infer_instance; infer_instance; (first | (with_reducible assumption) | omega)))
        refine wp_region_N (nowhere) (by kernel_rfl) (fun wd _ _ => ?_)
        refine' takeH (i := 0) (v := _) rfl (by kernel_rfl) (by kernel_rfl) (by kernel_rfl) (fun _ _ _ h => h) (yields_of (by rfl) (fun w' _ => ?_)) inferInstance ?_
        rotate_left
        · (go_simp; try with_reducible rfl)
        try simp only [Act.put, sA]; try simp only [sB, sC]
        refine' takeH (i := 1) (v := _) rfl (by kernel_rfl) (by kernel_rfl) (by kernel_rfl) (fun _ _ _ h => h) (yields_of (by rfl) (fun w' _ => ?_)) inferInstance ?_
        rotate_left
        · (go_simp; try with_reducible rfl)
        try simp only [Act.put, sA]; try simp only [sB, sC]
        refine' takeH (i := 2) (v := _) rfl (by kernel_rfl) (by kernel_rfl) (by kernel_rfl) (fun _ _ _ h => h) (yields_of (by rfl) (fun w' _ => ?_)) inferInstance ?_
        rotate_left
        · ((with_reducible apply ev_sl_h); (exact rfl); (exact rfl); infer_instance; (first | (with_reducible assumption) | omega))
        try simp only [Act.put, sA]; try simp only [sB, sC]
        refine' takeH (i := 3) (v := _) rfl (by kernel_rfl) (by kernel_rfl) (by kernel_rfl) (fun _ _ _ h => h) (yields_of (by rfl) (fun w' _ => ?_)) inferInstance ?_
        rotate_left
        · ((with_reducible apply ev_loadrow); (exact rfl); infer_instance; infer_instance; (first | (with_reducible assumption) | (with_reducible exact H32.size _) | kernel_rfl))
        try simp only [Act.put, sA]; try simp only [sB, sC]
        refine goH (i := 4) (by kernel_rfl) rfl (fun K_ hK_ => ?_)
        go_simp
        refine (hcontains_calls (l := l.take k) (hr := HR.takeR inferInstance k) (hget l k) HTL.out (by omega)).mono ?_
        rw [HNM.out]
        rintro e w2 ⟨rfl, _⟩
        refine hK_.out _ _ inferInstance (fun _ => ?_)
        clear hK_ K_
        try simp only [Act.put, sA]; try simp only [sB, sC]
        refine wpAnyH_done (by kernel_rfl) ?_ _
        go_wp2_with fail
        go_ret
        rw [HF.out]
        exact ⟨rfl, stepN⟩
    · have hltI : ¬ (k : Int) < n := by omega
      have hkn : k = n := by omega
      have HKN := Lib.hid hkn
      clear hkn
      go_wp2_with fail
      go_ret
      refine ⟨?_, stepN⟩
      rw [HRE.out, ← HKN.out, HA.out]
      rfl
set_option maxRecDepth 100000 in
set_option maxHeartbeats 1600000 in
theorem wIsKeys_calls {A : Option Addr} {n c : Nat} {l : List H32} (need : Int) {w : World} [hr : HR w A (cellsOf l)] (hl : l.length = n) (hc : n ≤ c) (hmax : n ≤ 4398046511104) :
    Calls Tryz.prog 153 #[.agg #[.slice A n c, .int .i64 need]] w fun e w' => e = .returned (.bool (isB l need)) ∧ Step nowhere w w' := by
  obtain ⟨R, hR⟩ : ∃ R, R = isB l need := ⟨_, rfl⟩
  have hRe := hR
  rw [isB, hl] at hRe
  rw [← hR]
  clear hR
  by_cases h4 : n ≤ 4
  · have e4 : (n : Int) ≤ 4 := by omega
    obtain ⟨U, hU⟩ : ∃ U, U = allB l n := ⟨_, rfl⟩
    rw [← hU] at hRe
    rw [decide_eq_true h4, Bool.true_and] at hRe
    have HU := Lib.hid hU
    clear hU
    have hcase : (U = false ∧ R = false) ∨ (U = true ∧ ¬ 1 ≤ need ∧ R = false) ∨ (U = true ∧ 1 ≤ need ∧ R = decide (need ≤ (n : Int))) := by
      cases U
      · exact .inl ⟨rfl, by rw [hRe]; simp⟩
      · by_cases h1 : 1 ≤ need
        · exact .inr (.inr ⟨rfl, h1, by rw [hRe]; simp [h1]⟩)
        · exact .inr (.inl ⟨rfl, h1, by rw [hRe]; simp [h1]⟩)
    clear hRe
    rcases hcase with ⟨rfl, rfl⟩ | ⟨rfl, h1, rfl⟩ | ⟨rfl, h1, rfl⟩
    all_goals
      go_enter Tryz.func153, Tryz.ntmps153
      go_wp2_with (first | ((with_reducible apply (wpl_guard (op := .load _ _))); (exact rfl)) | ((with_reducible apply (wpl_box_agg (dst := some 1))); (exact rfl); intro zk wzk _ _ _) | ((with_reducible apply (wpl_guard (op := .fieldAddr _ _ _))); (exact rfl)) | ((with_reducible apply wpl_loadcellN); (exact rfl); infer_instance; (exact rfl)))
      refine (unlikeH_calls hl hc (by omega)).mono ?_
      rw [← HU.out]
      rintro e w5 ⟨rfl, _⟩
      go_wp2_with (first | go_skip | ((with_reducible apply (wpl_guard (op := .load _ _))); (exact rfl)) | ((with_reducible apply (wpl_guard (op := .fieldAddr _ _ _))); (exact rfl)) | ((with_reducible apply wpl_loadcellN); (exact rfl); infer_instance; (exact rfl)))
      go_ret
      exact ⟨rfl, stepN⟩
  · have e4 : ¬ (n : Int) ≤ 4 := by omega
    have hf : R = false := by rw [hRe, decide_eq_false h4]; rfl
    rw [hf]
    clear hf hRe
    go_enter Tryz.func153, Tryz.ntmps153
    go_wp2_with (first | go_skip | ((with_reducible apply (wpl_box_agg (dst := some 1))); (exact rfl); intro zk wzk _ _ _) | ((with_reducible apply wpl_loadcellN); (exact rfl); infer_instance; (exact rfl)))
    go_ret
    exact ⟨rfl, stepN⟩
end Go.Proofs.YtmnapacibpnodaaGreat
end
section
open Go Go.RowKit
namespace Go.Proofs.YtmnapacibpnodaaGreat
/-- keys, and what their row holds -/
structure KR where
  A : Option Addr
  n : Nat
  c : Nat
  l : List H32
  need : Int
def KR.m (k : KR) : List H32 × Int := (k.l, k.need)
instance rowCKR : RowC KR := ⟨2, fun k => [.slice k.A k.n k.c, .int .i64 k.need], fun _ => rfl, fun k u hu => by
  simp only [List.mem_cons, List.not_mem_nil, or_false] at hu
  rcases hu with rfl | rfl <;> rfl, ⟨none, 0, 0, [], 0⟩⟩
structure KIn (w : World) (k : KR) : Prop where
  rd : Rd w k.A (cellsOf k.l)
  len : k.l.length = k.n
  cap : k.n ≤ k.c
  le : k.n ≤ 1000
theorem KIn.nw {w0 w : World} [n : Nw w0 w] {k : KR} (h : KIn w0 k) : KIn w k := ⟨h.rd.chg n.out (fun _ _ _ h => h), h.len, h.cap, h.le⟩
/-- the blocks that a row of digests lies in -/
def inRow (A : Option Addr) (l : List H32) : Nat → Prop := fun x => cellsOf l ≠ [] ∧ rowOf A x
theorem KIn.chg {S : Nat → Prop} {w0 w : World} {k : KR} (h : KIn w0 k) (hc : Chg S w0 w) (hS : ∀ x, inRow k.A k.l x → ¬ S x) : KIn w k := ⟨h.rd.chg hc (fun hne ad e hk => hS _ ⟨hne, ad, e, rfl⟩ hk), h.len, h.cap, h.le⟩
theorem KIn.low {w : World} {k : KR} (h : KIn w k) (x : Nat) (hx : inRow k.A k.l x) : x < w.heap.size := by
  obtain ⟨hne, ad, e, hk⟩ := hx
  rw [← hk]
  exact rd_lt h.rd hne e
instance rowTKeys : RowT Tryz.prog 73 2 := ⟨by kernel_rfl, _, Tryz.underlying73, rfl⟩
/-- a root's cells -/
def rtL (v e : Int) (K : List KR) : List Value := .int .i64 v :: .int .i64 e :: cellsOf K
def noKR : KR := ⟨none, 0, 0, [], 0⟩
def noK : List KR := [noKR, noKR, noKR, noKR]
theorem noKIn (w : World) : ∀ k ∈ noK, KIn w k := by
  intro k hk
  simp only [noK, List.mem_cons, List.not_mem_nil, or_false] at hk
  have : k = noKR := by rcases hk with h | h | h | h <;> exact h
  subst this
  exact ⟨Rd.nil _ _, rfl, Nat.le_refl _, by decide⟩
section
variable {P : Program} {ops : Array Oper} {rest : List Oper} {a : Act} {w : World} {Q : Exit → Act → World → Prop} {dst : Option Tmp} {ty : TypeId} {pos : String} {after : Array Edge} {gd : Option (Nat × Bool)}
end
/-- what a maker of a field answers -/
def FldPost (w : World) (ys : List UInt8) (U : Nat → Prop) : Ending → World → Prop := fun e w' => ∃ f caps T, e = .returned (.func (.func f) #[] caps) ∧ Step nowhere w w' ∧ Lays w' T (.func (.func f) #[] caps) ys ∧ ∀ x, T x → w.heap.size ≤ x ∨ U x
end Go.Proofs.YtmnapacibpnodaaGreat
end
section
open Go Go.RowKit
namespace Go.Proofs.YtmnapacibpnodaaGreat
section
variable {P : Program} {ops : Array Oper} {rest : List Oper} {a : Act} {w : World} {Q : Exit → Act → World → Prop} {dst : Option Tmp} {ty : TypeId} {pos : String} {after : Array Edge} {gd : Option (Nat × Bool)}
end
/-- keys that are all at hand, in rows of their own -/
def KsIn (w0 w : World) (K : List KR) : Prop := ∀ k ∈ K, KIn w k ∧ NewA w0 k.A
theorem KsIn.chg {S : Nat → Prop} {w0 w w' : World} {K : List KR} (h : KsIn w0 w K) (hc : Chg S w w') (hS : ∀ x, S x → x < w0.heap.size) : KsIn w0 w' K := fun k hk => ⟨(h k hk).1.chg hc (fun x ⟨_, ad, e, hx⟩ hs => by
  have := (h k hk).2.out ad e
  have := hS x hs
  omega), (h k hk).2⟩
theorem KsIn.set {w0 w : World} {K : List KR} (h : KsIn w0 w K) (i : Nat) {k : KR} (h1 : KIn w k) (h2 : NewA w0 k.A) : KsIn w0 w (K.set i k) := fun x hx => by
  rcases List.mem_or_eq_of_mem_set hx with h3 | rfl
  · exact h x h3
  · exact ⟨h1, h2⟩
theorem KsIn.none (w0 w : World) : KsIn w0 w noK := fun k hk => by
  refine ⟨noKIn w k hk, ?_⟩
  simp only [noK, List.mem_cons, List.not_mem_nil, or_false] at hk
  have : k = noKR := by rcases hk with h | h | h | h <;> exact h
  subst this
  exact ⟨fun ad e => by cases e⟩
theorem KsIn.first {w0 w1 w : World} {K : List KR} (h : KsIn w1 w K) (hs : w0.heap.size ≤ w1.heap.size) : KsIn w0 w K := fun k hk => ⟨(h k hk).1, ⟨fun ad e => Nat.le_trans hs ((h k hk).2.out ad e)⟩⟩
end Go.Proofs.YtmnapacibpnodaaGreat
end
