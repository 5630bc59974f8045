/- WvB, WyM, TkM -/
import Derived.Test.YtmnapacibpnodaaGreatUeRrB
import Derived.Test.YtmnapacibpnodaaGreatUeWyQ
section
open Go Go.RowKit
namespace Go.Proofs.YtmnapacibpnodaaGreat
def rOk (b : List UInt8) : Bool := wholeB (rR (kindS 5 b)) && repB (rU (kindS 5 b)) (rN (kindS 5 b)) (rC (kindS 5 b)) (rK (kindS 5 b))
/-- what is decoded -/
def repD (b : List UInt8) : Array Value := (repL (strL (rU (kindS 5 b))) (strL (rN (kindS 5 b))) (rH (kindS 5 b)) (rC (kindS 5 b)) (rK (kindS 5 b))).toArray
def DecR (b : List UInt8) (w : World) : Ending → World → Prop := fun e w' => Step nowhere w w' ∧ e = .returned (if rOk b then .tuple #[.agg (repD b), .int .i64 0] else .tuple #[.agg (repL ⟨#[]⟩ ⟨#[]⟩ zeroH 0 0).toArray, .int .i64 2])
set_option maxRecDepth 100000 in
set_option maxHeartbeats 1600000 in
theorem decReport_calls {A : Option Addr} {n c : Nat} {b : List UInt8} {w : World} [hr : HR w A (bs b)] (hl : b.length = n) (hn : n ≤ 140737488351232) :
    Calls Tryz.prog 42 #[.int .i64 5, .slice A n c, .func (.func 43) #[] #[], .func (.func 44) #[] #[]] w (DecR b w) := by
  obtain ⟨S, hS⟩ : ∃ S, S = kindS 5 b := ⟨_, rfl⟩
  obtain ⟨W, hW⟩ : ∃ W, W = wholeB (rR S) := ⟨_, rfl⟩
  obtain ⟨I, hI⟩ : ∃ I, I = repB (rU S) (rN S) (rC S) (rK S) := ⟨_, rfl⟩
  have hSl : S.b.length ≤ 140737488351232 := by
    have := kindS_le 5 b
    rw [← hS] at this
    omega
  have hok : rOk b = (W && I) := by rw [rOk, ← hS, hW, hI]
  have hD : repD b = (repL (strL (rU S)) (strL (rN S)) (rH S) (rC S) (rK S)).toArray := by rw [repD, ← hS]
  obtain ⟨V, hV⟩ : ∃ V, V = rU S := ⟨_, rfl⟩
  obtain ⟨E, hE⟩ : ∃ E, E = rN S := ⟨_, rfl⟩
  obtain ⟨H, hH⟩ : ∃ H, H = rH S := ⟨_, rfl⟩
  obtain ⟨N, hN⟩ : ∃ N, N = rC S := ⟨_, rfl⟩
  obtain ⟨K, hK⟩ : ∃ K, K = rK S := ⟨_, rfl⟩
  rw [← hV, ← hE, ← hN, ← hK] at hI
  rw [← hV, ← hE, ← hN, ← hH, ← hK] at hD
  have HRR := Lib.hid hr.out
  have HS := Lib.hid hS
  have HW := Lib.hid hW
  have HI := Lib.hid hI
  have HV := Lib.hid hV
  have HE := Lib.hid hE
  have HN := Lib.hid hN
  have HH := Lib.hid hH
  have HK := Lib.hid hK
  have HLE := Lib.hid hl
  unfold DecR
  rw [hok, hD]
  clear hS hW hI hV hE hN hH hK hok hD
  go_enter Tryz.func42, Tryz.ntmps42
  go_wp2_with (first | ((with_reducible apply (wpl_alloc (dst := some 8))); intro zo wzo _ _ _))
  refine (NewReader_calls A n c b _ (HRR.out.later (stepN (w0 := w)).chg) HLE.out (by omega)).mono ?_
  rintro e w2 ⟨g, d, rfl, h2, c2, hg, hd⟩
  have st2 : Step nowhere _ w2 := ⟨c2.out⟩
  have hgw : w.heap.size ≤ g := Nat.le_trans (inferInstance : SzLe w wzo).out hg
  have hdw : w.heap.size ≤ d := Nat.le_trans (inferInstance : SzLe w wzo).out hd
  have hzol := (inferInstance : HB wzo zo 43 (repL ⟨#[]⟩ ⟨#[]⟩ zeroH 0 0).toArray).out.lt
  have ozg : OffB (only g) zo := ⟨fun e => by have e' : zo = g := e; omega⟩
  have ag : Above w (only g) := ⟨fun k h => by have h' : k = g := h; omega⟩
  go_wp2_with fail
  refine (Num_calls g d _ w2 h2.out (by show b.length ≤ _; have := HLE.out; omega)).mono ?_
  rintro e w3 ⟨rfl, h3, c3⟩
  have st3 : Step (only g) w2 w3 := ⟨c3.out⟩
  obtain ⟨q, hq⟩ : ∃ q, q = (⟨b, false⟩ : RS).num.1 := ⟨_, rfl⟩
  rw [← hq]
  clear c2 c3 h2
  by_cases hk : q = 5
  · have HSS : Hid (RdrAt w3 g d S) := Lib.hid (by
      rw [HS.out, kindS, if_pos (by rw [← hq]; exact hk)]
      exact h3.out)
    have hqI : (q : Int) = 5 := by omega
    clear h3 hq hk
    rw [hqI]
    clear hqI
    go_wp2_with fail
    refine (takeReport_calls HSS.out hSl).mono ?_
    rw [← HV.out, ← HE.out, ← HN.out, ← HH.out, ← HK.out]
    rintro e w4 ⟨rfl, st4, h4⟩
    have HR4 := Lib.hid h4
    clear h4
    go_wp2_with (first | ((with_reducible apply wpl_storerow); (exact rfl); (exact rfl); infer_instance; infer_instance; (exact repL_len _ _ _ _ _); (exact repL_len _ _ _ _ _); (exact repL_one _ _ _ _ _); intro ws _ _) | ((with_reducible apply (wpl_alloc (dst := some 11))); intro zt wzt _ _ _))
    refine (Whole_calls g d (rR S) _ (HR4.out.chg (inferInstance : Nw w4 _).out (fun h => h) (fun h => h)) (by have := rR_le S; omega)).mono ?_
    have e6 : (!(rR S).e && decide ((rR S).b = [])) = W := by rw [HW.out]; rfl
    rw [e6]
    rintro e w6 ⟨rfl, rfl⟩
    clear e6
    cases W
    case false =>
      go_wp2_with (first | ((with_reducible apply wpl_storerow); (exact rfl); (exact rfl); infer_instance; infer_instance; (exact repL_len _ _ _ _ _); (exact repL_len _ _ _ _ _); (exact repL_one _ _ _ _ _); intro ws _ _) | ((with_reducible apply wpl_loadrow); (exact rfl); infer_instance; infer_instance; (exact repL_len _ _ _ _ _)) | ((with_reducible apply (wpl_alloc (dst := some 12))); intro zz wzz _ _ _))
      refine ret_row_ rfl rfl rfl (n := 36) (repL_len _ _ _ _ _) rfl ?_
      exact ⟨stepN, rfl⟩
    case true =>
      go_wp2_with (first | ((with_reducible apply wpl_loadrow); (exact rfl); infer_instance; infer_instance; (exact repL_len _ _ _ _ _)) | ((with_reducible apply (wpl_guard (op := .load _ _))); (exact rfl)))
      refine (isReport_calls (strL V) (strL E) H N K V E rfl rfl _).mono ?_
      rw [← HI.out]
      rintro e w7 ⟨rfl, _⟩
      cases I
      case false =>
        go_wp2_with (first | ((with_reducible apply wpl_storerow); (exact rfl); (exact rfl); infer_instance; infer_instance; (exact repL_len _ _ _ _ _); (exact repL_len _ _ _ _ _); (exact repL_one _ _ _ _ _); intro ws _ _) | ((with_reducible apply wpl_loadrow); (exact rfl); infer_instance; infer_instance; (exact repL_len _ _ _ _ _)) | ((with_reducible apply (wpl_alloc (dst := some 12))); intro zz wzz _ _ _))
        refine ret_row_ rfl rfl rfl (n := 36) (repL_len _ _ _ _ _) rfl ?_
        exact ⟨stepN, rfl⟩
      case true =>
        go_wp2_with (first | ((with_reducible apply wpl_storerow); (exact rfl); (exact rfl); infer_instance; infer_instance; (exact repL_len _ _ _ _ _); (exact repL_len _ _ _ _ _); (exact repL_one _ _ _ _ _); intro ws _ _) | ((with_reducible apply wpl_loadrow); (exact rfl); infer_instance; infer_instance; (exact repL_len _ _ _ _ _)))
        refine ret_row_ rfl rfl rfl (n := 36) (repL_len _ _ _ _ _) rfl ?_
        exact ⟨stepN, rfl⟩
  · have HSS0 : Hid (S = RS.bad) := Lib.hid (by rw [HS.out, kindS, if_neg (by rw [← hq]; exact hk)])
    have hqI : ((q : Int) == 5) = false := by simp; omega
    have hqJ : (q : Int) < 5 ∨ 5 < (q : Int) := by omega
    have H3 := h3
    clear h3 hq hk
    go_wp2_with fail
    refine (Bad_calls g d _ _ H3.out).mono ?_
    rintro e w3b ⟨rfl, h3b, c3b⟩
    have st3b : Step (only g) w3 w3b := ⟨c3b.out⟩
    have HSS : Hid (RdrAt w3b g d S) := Lib.hid (by rw [HSS0.out]; exact h3b.out)
    clear h3b c3b H3
    go_wp2_with fail
    refine (takeReport_calls HSS.out hSl).mono ?_
    rw [← HV.out, ← HE.out, ← HN.out, ← HH.out, ← HK.out]
    rintro e w4 ⟨rfl, st4, h4⟩
    have HR4 := Lib.hid h4
    clear h4
    go_wp2_with (first | ((with_reducible apply wpl_storerow); (exact rfl); (exact rfl); infer_instance; infer_instance; (exact repL_len _ _ _ _ _); (exact repL_len _ _ _ _ _); (exact repL_one _ _ _ _ _); intro ws _ _) | ((with_reducible apply (wpl_alloc (dst := some 11))); intro zt wzt _ _ _))
    refine (Whole_calls g d (rR S) _ (HR4.out.chg (inferInstance : Nw w4 _).out (fun h => h) (fun h => h)) (by have := rR_le S; omega)).mono ?_
    have e6 : (!(rR S).e && decide ((rR S).b = [])) = W := by rw [HW.out]; rfl
    rw [e6]
    rintro e w6 ⟨rfl, rfl⟩
    clear e6
    cases W
    case false =>
      go_wp2_with (first | ((with_reducible apply wpl_storerow); (exact rfl); (exact rfl); infer_instance; infer_instance; (exact repL_len _ _ _ _ _); (exact repL_len _ _ _ _ _); (exact repL_one _ _ _ _ _); intro ws _ _) | ((with_reducible apply wpl_loadrow); (exact rfl); infer_instance; infer_instance; (exact repL_len _ _ _ _ _)) | ((with_reducible apply (wpl_alloc (dst := some 12))); intro zz wzz _ _ _))
      refine ret_row_ rfl rfl rfl (n := 36) (repL_len _ _ _ _ _) rfl ?_
      exact ⟨stepN, rfl⟩
    case true =>
      go_wp2_with (first | ((with_reducible apply wpl_loadrow); (exact rfl); infer_instance; infer_instance; (exact repL_len _ _ _ _ _)) | ((with_reducible apply (wpl_guard (op := .load _ _))); (exact rfl)))
      refine (isReport_calls (strL V) (strL E) H N K V E rfl rfl _).mono ?_
      rw [← HI.out]
      rintro e w7 ⟨rfl, _⟩
      cases I
      case false =>
        go_wp2_with (first | ((with_reducible apply wpl_storerow); (exact rfl); (exact rfl); infer_instance; infer_instance; (exact repL_len _ _ _ _ _); (exact repL_len _ _ _ _ _); (exact repL_one _ _ _ _ _); intro ws _ _) | ((with_reducible apply wpl_loadrow); (exact rfl); infer_instance; infer_instance; (exact repL_len _ _ _ _ _)) | ((with_reducible apply (wpl_alloc (dst := some 12))); intro zz wzz _ _ _))
        refine ret_row_ rfl rfl rfl (n := 36) (repL_len _ _ _ _ _) rfl ?_
        exact ⟨stepN, rfl⟩
      case true =>
        go_wp2_with (first | ((with_reducible apply wpl_storerow); (exact rfl); (exact rfl); infer_instance; infer_instance; (exact repL_len _ _ _ _ _); (exact repL_len _ _ _ _ _); (exact repL_one _ _ _ _ _); intro ws _ _) | ((with_reducible apply wpl_loadrow); (exact rfl); infer_instance; infer_instance; (exact repL_len _ _ _ _ _)))
        refine ret_row_ rfl rfl rfl (n := 36) (repL_len _ _ _ _ _) rfl ?_
        exact ⟨stepN, rfl⟩
set_option maxRecDepth 100000 in
theorem DecodeReport_calls {A : Option Addr} {n c : Nat} {b : List UInt8} {w : World} [hr : HR w A (bs b)] (hl : b.length = n) (hn : n ≤ 140737488351232) :
    Calls Tryz.prog 20 #[.slice A n c] w (DecR b w) := by
  obtain ⟨O, hO⟩ : ∃ O, O = rOk b := ⟨_, rfl⟩
  obtain ⟨D, hD⟩ : ∃ D, D = repD b := ⟨_, rfl⟩
  have hDl : D.size = 36 := by rw [hD]; exact repL_len _ _ _ _ _
  have hDo : D.all (·.oneCell') = true := by rw [hD]; exact repL_one _ _ _ _ _
  have HO1 := Lib.hid hO
  have HD1 := Lib.hid hD
  have HLE := Lib.hid hl
  unfold DecR
  rw [← hO, ← hD]
  clear hO hD hl
  go_enter Tryz.func20, Tryz.ntmps20
  go_wp2_with (first | ((with_reducible apply (wpl_alloc (dst := some 2))); intro zo wzo _ _ _))
  refine (decReport_calls HLE.out hn).mono ?_
  rintro e w2 ⟨_, h2⟩
  rw [← HO1.out, ← HD1.out] at h2
  cases O
  case false =>
    obtain rfl : e = _ := h2
    go_wp2_with (first | ((with_reducible apply wpl_storerow); (exact rfl); (exact rfl); infer_instance; infer_instance; (exact repL_len _ _ _ _ _); (exact repL_len _ _ _ _ _); (exact repL_one _ _ _ _ _); intro ws _ _))
    refine ret_row_ rfl rfl rfl (n := 36) (repL_len _ _ _ _ _) rfl ?_
    exact ⟨stepN, rfl⟩
  case true =>
    obtain rfl : e = _ := h2
    go_wp2_with (first | ((with_reducible apply wpl_storerow); (exact rfl); (exact rfl); infer_instance; infer_instance; (exact hDl); (exact repL_len _ _ _ _ _); (exact hDo); intro ws _ _))
    refine ret_row_ rfl rfl rfl (n := 36) hDl rfl ?_
    exact ⟨stepN, rfl⟩
end Go.Proofs.YtmnapacibpnodaaGreat
end
section
open Go Go.RowKit
namespace Go.Proofs.YtmnapacibpnodaaGreat
theorem ofNat_toNat (c : UInt8) (n : Nat) (h : n = c.toNat) : UInt8.ofNat n = c := by subst h; exact UInt8.ofNat_toNat
theorem parse_back : ∀ (b : List UInt8) (i acc N : Nat) (r : List UInt8), parse i acc b = some (N, r) → ∃ n, N = acc + n * 128 ^ i ∧ b = enc n ++ r ∧ (0 < i → 0 < n) ∧ N ≤ 4611686018427387904
  | [], i, acc, N, r, h => by simp [parse] at h
  | c :: b, i, acc, N, r, h => by
    have hc := c.toNat_lt
    rw [parse] at h
    by_cases h9 : 9 ≤ i
    · rw [if_pos h9] at h
      cases h
    · rw [if_neg h9] at h
      by_cases h1 : 128 ≤ c.toNat
      · rw [if_pos h1] at h
        obtain ⟨n, e1, e2, e3, e4⟩ := parse_back b (i + 1) _ N r h
        have hn : 0 < n := e3 (by omega)
        refine ⟨c.toNat % 128 + 128 * n, ?_, ?_, fun _ => by omega, e4⟩
        · rw [e1, Nat.add_mul, Nat.pow_succ, Nat.add_assoc]
          congr 2
          rw [Nat.mul_comm 128 n, Nat.mul_assoc, Nat.mul_comm 128]
        · have hl : ¬ (c.toNat % 128 + 128 * n) < 128 := by omega
          rw [enc_large hl, show (c.toNat % 128 + 128 * n) % 128 + 128 = c.toNat by omega, show (c.toNat % 128 + 128 * n) / 128 = n by omega, ofNat_toNat c _ rfl, e2]
          rfl
      · rw [if_neg h1] at h
        by_cases h2 : 4611686018427387904 < acc + c.toNat % 128 * 128 ^ i ∨ (c.toNat = 0 ∧ 0 < i)
        · rw [if_pos h2] at h
          cases h
        · rw [if_neg h2] at h
          injection h with h
          injection h with ha hb
          subst hb
          have hm : c.toNat % 128 = c.toNat := by omega
          rw [hm] at ha h2
          refine ⟨c.toNat, ha.symm, ?_, fun hi => ?_, by omega⟩
          · rw [enc_small (by omega), ofNat_toNat c _ rfl]
            rfl
          · rcases Nat.eq_zero_or_pos c.toNat with h0 | h0
            · exact absurd (.inr ⟨h0, hi⟩) h2
            · exact h0
theorem num_back {s : RS} (h : s.num.2.e = false) : s.e = false ∧ s.b = enc s.num.1 ++ s.num.2.b ∧ s.num.1 ≤ 4611686018427387904 := by
  unfold RS.num at *
  cases he : s.e
  case true =>
    rw [he, if_pos rfl] at h
    rw [he] at h
    cases h
  case false =>
    rw [he, if_neg (by decide)] at h
    rw [if_neg (by decide)]
    cases hp : parse 0 0 s.b with
    | none =>
      rw [hp] at h
      cases h
    | some x =>
      obtain ⟨N, r⟩ := x
      obtain ⟨n, e1, e2, _, e4⟩ := parse_back s.b 0 0 N r hp
      have hN : N = n := by simpa using e1
      refine ⟨rfl, ?_, e4⟩
      show s.b = enc N ++ r
      rw [hN]
      exact e2
theorem raw_back {s : RS} {i : Int} (h : (s.raw i).2.e = false) : s.e = false ∧ 0 ≤ i ∧ s.b = (s.raw i).1 ++ (s.raw i).2.b ∧ ((s.raw i).1.length : Int) = i := by
  unfold RS.raw at *
  by_cases hc : s.e ∨ i < 0 ∨ (s.b.length : Int) < i
  · rw [if_pos hc] at h
    cases h
  · rw [if_neg hc]
    have h1 : s.e = false := by
      cases he : s.e
      · rfl
      · exact absurd (.inl he) hc
    have h2 : 0 ≤ i := Int.not_lt.1 (fun h => hc (.inr (.inl h)))
    have h3 : i ≤ (s.b.length : Int) := Int.not_lt.1 (fun h => hc (.inr (.inr h)))
    refine ⟨h1, h2, (List.take_append_drop _ _).symm, ?_⟩
    show ((s.b.take i.toNat).length : Int) = i
    rw [List.length_take]
    omega
theorem hsh_back {s : RS} (h : (s.raw 32).2.e = false) : s.e = false ∧ s.b = s.hsh.l ++ (s.raw 32).2.b := by
  obtain ⟨h1, _, h3, h4⟩ := raw_back h
  refine ⟨h1, ?_⟩
  rw [RS.hsh, dif_pos (by omega)]
  exact h3
theorem encN {n : Nat} (h : n ≤ 4611686018427387904) : encAll [(n : Int)] = enc n := by rw [encAll_one, clampN_nat n h]
theorem encAll_app (a b : List Int) : encAll (a ++ b) = encAll a ++ encAll b := by simp [encAll]
/-- a time's bytes -/
def timE (v e s : Int) (h : H32) : List UInt8 := encAll [2] ++ (encAll [v, e, s] ++ h.l)
/-- a report's bytes -/
def repE (l m : List UInt8) (h : H32) (c k : Int) : List UInt8 := encAll [5] ++ (encRow l ++ (encRow m ++ (h.l ++ encAll [c, k])))
end Go.Proofs.YtmnapacibpnodaaGreat
end
section
open Go Go.RowKit
namespace Go.Proofs.YtmnapacibpnodaaGreat
section
variable {α : Type} (tk : RS → α × RS)
def tkS (s : RS) : Nat → RS
  | 0 => s
  | k + 1 => (tk (tkS s k)).2
def tkL (s : RS) : Nat → List α
  | 0 => []
  | k + 1 => tkL s k ++ [(tk (tkS tk s k)).1]
theorem tkL_len (s : RS) : ∀ k, (tkL tk s k).length = k
  | 0 => rfl
  | k + 1 => by rw [tkL, List.length_append, tkL_len s k]; rfl
def lstL (most : Nat) (s : RS) : List α := if most < s.num.1 then [] else tkL tk s.num.2 s.num.1
def lstS (most : Nat) (s : RS) : RS := if most < s.num.1 then RS.bad else tkS tk s.num.2 s.num.1
def GotL (most : Nat) (s : RS) (l : List α) (s' : RS) : Prop := ∃ j, j ≤ most + 1 ∧ j ≤ s.num.1 ∧ (j = s.num.1 ∨ j = most + 1 ∨ (tkS tk s.num.2 j).e = true) ∧ l = tkL tk s.num.2 j ∧ s' = tkS tk s.num.2 j
/-- what is known of a way to take one -/
structure Takes (enc : α → List UInt8) : Prop where
  le : ∀ s, (tk s).2.b.length ≤ s.b.length
  back : ∀ s, (tk s).2.e = false → s.e = false ∧ s.b = enc (tk s).1 ++ (tk s).2.b
end
section
variable {α : Type} {tk : RS → α × RS} {enc : α → List UInt8}
theorem Takes.tkS_le (h : Takes tk enc) (s : RS) : ∀ k, (tkS tk s k).b.length ≤ s.b.length
  | 0 => Nat.le_refl _
  | k + 1 => Nat.le_trans (h.le _) (Takes.tkS_le h s k)
theorem Takes.tkS_mono (h : Takes tk enc) (s : RS) (j : Nat) : ∀ k, (tkS tk s k).e = false → j ≤ k → (tkS tk s j).e = false
  | 0, he, hj => by
    obtain rfl : j = 0 := by omega
    exact he
  | k + 1, he, hj => by
    by_cases e : j = k + 1
    · subst e; exact he
    · exact Takes.tkS_mono h s j k (h.back (tkS tk s k) he).1 (by omega)
theorem GotL.le (h : Takes tk enc) {most : Nat} {s s' : RS} {l : List α} (g : GotL tk most s l s') : s'.b.length ≤ s.b.length := by
  obtain ⟨j, _, _, _, _, rfl⟩ := g
  exact Nat.le_trans (h.tkS_le _ _) (RS.num_le s)
theorem GotL.same {most : Nat} {s s' : RS} {l : List α} (g : GotL tk most s l s') (he : s'.e = false) (hl : l.length ≤ most) : l = lstL tk most s ∧ s' = lstS tk most s := by
  obtain ⟨j, h5, hn, hj, rfl, rfl⟩ := g
  rw [tkL_len] at hl
  have e : j = s.num.1 := by
    rcases hj with h | h | h
    · exact h
    · omega
    · rw [he] at h; cases h
  have h4 : ¬ most < s.num.1 := by omega
  rw [lstL, lstS, if_neg h4, if_neg h4, ← e]
  exact ⟨rfl, rfl⟩
theorem GotL.prog (h : Takes tk enc) {most : Nat} {s s' : RS} {l : List α} (g : GotL tk most s l s') (he : (lstS tk most s).e = false) : l = lstL tk most s ∧ s' = lstS tk most s := by
  obtain ⟨j, h5, hn, hj, rfl, rfl⟩ := g
  have h4 : ¬ most < s.num.1 := fun h4 => by
    rw [lstS, if_pos h4] at he
    cases he
  rw [lstS, if_neg h4] at he
  have e : j = s.num.1 := by
    rcases hj with h' | h' | h'
    · exact h'
    · omega
    · rw [h.tkS_mono _ _ _ he hn] at h'; cases h'
  rw [lstL, lstS, if_neg h4, if_neg h4, ← e]
  exact ⟨rfl, rfl⟩
end
end Go.Proofs.YtmnapacibpnodaaGreat
end
