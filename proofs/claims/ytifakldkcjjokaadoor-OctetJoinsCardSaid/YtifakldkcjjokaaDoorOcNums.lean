/- Any numbers as bytes, and back (the law OctetNums). -/
import Derived.Test.YtifakldkcjjokaaDoorOcHelp
import Derived.Test.YtifakldkcjjokaaDoorOcNum
import Derived.Deep.RegionHeld3
open Go Go.RowKit
namespace Go.Proofs.YtifakldkcjjokaaDoor
theorem parse_enc (n : Nat) : ∀ (i acc : Nat) (rest : List UInt8), (enc n).length + i ≤ 9 → (0 < n ∨ i = 0) → acc + n * 128 ^ i ≤ 4611686018427387904 → parse i acc (enc n ++ rest) = some (acc + n * 128 ^ i, rest) := by
  induction n using Nat.strongRecOn with
  | _ n ih =>
    intro i acc rest hlen h0 hle
    by_cases h : n < 128
    · rw [enc_small h] at hlen ⊢
      have hb : (UInt8.ofNat n).toNat = n := by simp; omega
      have hm : n % 128 = n := Nat.mod_eq_of_lt h
      show parse i acc (UInt8.ofNat n :: rest) = _
      rw [parse_end (by simp at hlen; omega) (by omega) (by rw [hb, hm]; exact hle) (by rw [hb]; omega), hb, hm]
    · rw [enc_large h] at hlen ⊢
      have hb : (UInt8.ofNat (n % 128 + 128)).toNat = n % 128 + 128 := by simp; omega
      have hm : (n % 128 + 128) % 128 = n % 128 := by omega
      have hp := enc_pos (n / 128)
      show parse i acc (UInt8.ofNat (n % 128 + 128) :: (enc (n / 128) ++ rest)) = _
      rw [parse_more (by simp at hlen; omega) (by omega), hb, hm]
      have e : acc + n % 128 * 128 ^ i + n / 128 * 128 ^ (i + 1) = acc + n * 128 ^ i := by
        rw [Nat.pow_succ]
        have h1 : n = n % 128 + n / 128 * 128 := by omega
        have h2 : n * 128 ^ i = (n % 128 + n / 128 * 128) * 128 ^ i := by rw [← h1]
        rw [h2, Nat.add_mul, Nat.mul_assoc, Nat.mul_comm 128 (128 ^ i)]
        omega
      rw [ih (n / 128) (by omega) (i + 1) _ rest (by simp at hlen; omega) (.inl (by omega)) (by rw [e]; exact hle), e]
theorem num_enc (n : Nat) (rest : List UInt8) (h : n ≤ 4611686018427387904) : RS.num ⟨enc n ++ rest, false⟩ = (n, ⟨rest, false⟩) := by
  unfold RS.num
  rw [if_neg (by simp)]
  show (match parse 0 0 (enc n ++ rest) with | some (n, r) => (n, (⟨r, false⟩ : RS)) | none => (0, RS.bad)) = _
  rw [parse_enc n 0 0 rest (by have := enc_len n h; omega) (.inr rfl) (by simpa using h)]
  simp
theorem Num_calls (g d : Nat) (s : RS) (w : World) (h : RdrAt w g d s) (hl : s.b.length ≤ 1000000000000) :
    Calls Tryd.prog 17 #[.pointer (some ⟨g, 0, none⟩)] w fun e w' => e = .returned (.int .i64 s.num.1) ∧ Hid (RdrAt w' g d s.num.2) ∧ Hid (Chg (fun k => k = g) w w') := by
  rcases he : s.e with _ | _
  · exact Num_good g d s w h he hl
  · have hs := RS.eta_bad h.ok he
    subst hs
    have hnum : RS.bad.num = (0, RS.bad) := rfl
    rw [hnum]
    have H := Lib.hid h
    clear h hnum he
    have hbt : (!RS.bad.e) = false := rfl
    go_enter Tryd.func17, Tryd.ntmps17
    go_wp2_with fail
    refine (Good_calls g d RS.bad _ H.out).mono ?_
    rintro e w2 ⟨rfl, rfl⟩
    go_wp2_with fail
    go_ret
    exact ⟨rfl, H, Chg.refl _ _⟩
set_option maxRecDepth 100000 in
set_option maxHeartbeats 800000 in
theorem octetNums_calls (A : Option Addr) (n c : Nat) (vs : List Int) (w : World) (hT : TabOk w) (hr : Rd w A (is64 vs)) (hn : vs.length = n) (hmax : n ≤ 9223372036854775807) :
    Calls Tryd.prog 3 #[.slice A n c] w fun e w' => e = .returned (.bool true) ∧ Chg nowhere w w' := by
  have HT := Lib.hid hT
  have HR := Lib.hid hr
  have HN := Lib.hid hn
  clear hT hr hn
  by_cases hbig : 500 < n
  · have g1 : (500 : Int) < n := by omega
    go_enter Tryd.func3, Tryd.ntmps3
    go_wp2_with fail
    go_ret
    exact ⟨rfl, Chg.refl _ _⟩
  · have g1 : ¬ (500 : Int) < n := by omega
    have hE := encAll_len vs
    rw [HN.out] at hE
    have HE : Hid ((encAll vs).length ≤ 4500) := Lib.hid (by omega)
    clear hE
    go_enter Tryd.func3, Tryd.ntmps3
    go_wp2_with fail
    refine (Nums_calls w.heap.size none [] A n c vs _ (WrAt.new w) (HR.out.later ((Chg.refl _ _).alloc _)) HN.out (HR.out.apart (wf_new _)) (by have := HN.out; simp; omega)).mono ?_
    rintro e w1 ⟨rfl, A1, h1, h2, h3⟩
    rw [List.nil_append] at h1
    have HC1 := Lib.hid (((Chg.refl nowhere w).alloc _).step h2 (wf_new _))
    have HG1 := Lib.hid (wf_ge (wf_new _) (Chg.alloc (Chg.refl nowhere w) _).size h3)
    have H1 := Lib.hid h1
    clear h1 h2 h3
    go_wp2_with fail
    refine (Out_calls _ _ _ _ H1.out (by have := HE.out; omega)).mono ?_
    rintro e w2 ⟨A2, n2, c2, rfl, hn2, ho2, hch2, hge2⟩
    have HC2 := Lib.hid (HC1.out.step hch2.out (fun _ h => h.elim))
    have H2 := Lib.hid (H1.out.chg hch2.out (fun _ _ h => h))
    have HOLD := Lib.hid H1.out.old
    clear hch2
    go_wp2_with fail
    refine (refNums_calls A n c vs _ (HR.out.later HC2.out) HN.out (by omega)).mono ?_
    rintro e w3 ⟨A3, n3, c3, rfl, hf3⟩
    have HC3 := Lib.hid (HC2.out.step hf3.out.chg (fun _ h => h.elim))
    have H3 := Lib.hid (H2.out.chg hf3.out.chg (fun _ _ h => h))
    have HO3 := Lib.hid (ho2.out.chg hf3.out.chg (fun _ _ h => h))
    go_wp2_with fail
    refine (same_calls A2 A3 n2 n3 c2 c3 (encAll vs) (encAll vs) _ hn2.out.symm hf3.out.len.symm (by have := hn2.out; have := HE.out; omega) HO3.out.rd hf3.out.rd).mono ?_
    rintro e w4 ⟨he, hw4⟩
    rw [decide_eq_true rfl] at he
    subst he
    have HC34 : Hid (Chg nowhere w3 w4) := by
      obtain ⟨q, rfl⟩ := hw4
      exact (Chg.refl _ _).drewN q
    clear hw4
    have HC4 := Lib.hid (HC3.out.step HC34.out (fun _ h => h.elim))
    have H4 := Lib.hid (H3.out.chg HC34.out (fun _ _ h => h))
    have HO4 := Lib.hid (HO3.out.chg HC34.out (fun _ _ h => h))
    clear HC34 HO3 H3 H2 H1 hf3 ho2
    go_wp2_with fail
    refine (NewReader_calls A2 n2 c2 (encAll vs) _ HO4.out.rd hn2.out.symm (by have := hn2.out; have := HE.out; omega)).mono ?_
    rintro e w5 ⟨g5, d5, rfl, hr5, hch5, _, _⟩
    have HC5 := Lib.hid (HC4.out.step hch5.out (fun _ h => h.elim))
    have H5 := Lib.hid (H4.out.chg hch5.out (fun _ _ h => h))
    have HO5 := Lib.hid (HO4.out.chg hch5.out (fun _ _ h => h))
    clear hch5 hr5 HO4 H4
    go_wp2_with fail
    refine (spoil_calls A2 n2 c2 _ _ HO5.out (by have := hn2.out; have := HE.out; omega)).mono ?_
    rintro e w6 ⟨rfl, hch6⟩
    have HC6 := Lib.hid (HC5.out.step hch6.out (by rintro x ⟨ad, e, rfl⟩; have h1 := hge2.out ad e; have h2 := HC1.out.size; omega))
    have H6 := Lib.hid (H5.out.chg hch6.out (by
      rintro k hk ⟨ad, e, rfl⟩
      have h1 := hge2.out ad e
      have h2 := HOLD.out _ hk
      omega))
    clear hch6 HO5 H5
    go_wp2_with fail
    refine (Out_calls _ _ _ _ H6.out (by have := HE.out; omega)).mono ?_
    rintro e w7 ⟨A7, n7, c7, rfl, hn7, ho7, hch7, hge7⟩
    have HC7 := Lib.hid (HC6.out.step hch7.out (fun _ h => h.elim))
    clear hch7 H6
    go_wp2_with fail
    refine (NewReader_calls A7 n7 c7 (encAll vs) _ ho7.out.rd hn7.out.symm (by have := hn7.out; have := HE.out; omega)).mono ?_
    rintro e w8 ⟨g8, d8, rfl, hr8, hch8, hg8, hd8⟩
    have HC8 := Lib.hid (HC7.out.step hch8.out (fun _ h => h.elim))
    have hg8' : w.heap.size ≤ g8 := Nat.le_trans HC7.out.size hg8
    clear hch8
    go_wp2_with fail
    go_loopw [6] (fun t wr => ∃ k : Nat, k ≤ n ∧ t = .int .i64 k ∧ RdrAt wr g8 d8 ⟨encAll (vs.drop k), false⟩ ∧ Chg nowhere w wr) (fun t _ => n - (intOf t).toNat)
    case atStart => exact ⟨0, Nat.zero_le _, rfl, hr8.out, HC8.out⟩
    case round =>
      obtain ⟨k, hk, rfl, hrd, hch⟩ := hrel
      have HRD := Lib.hid hrd
      have HCH := Lib.hid hch
      clear hrd hch
      by_cases hlt : k < n
      · have e1 : (k : Int) < n := by omega
        have hkv : k < vs.length := by have := HN.out; omega
        obtain ⟨ad, rfl, hc⟩ := (HR.out.later HCH.out) k (.int .i64 vs[k]) (by simp [is64, hkv])
        have hdr : encAll (vs.drop k) = enc (clampN vs[k]) ++ encAll (vs.drop (k + 1)) := by
          rw [List.drop_eq_getElem_cons hkv]
          exact List.flatMap_cons
        generalize vs[k] = v at hc hdr
        have hnum := num_enc (clampN v) (encAll (vs.drop (k + 1))) (clampN_le v)
        rw [← hdr] at hnum
        have HNUM := Lib.hid hnum
        have hl8 : (encAll (vs.drop k)).length ≤ 4500 := by
          have h1 := encAll_len (vs.drop k)
          rw [List.length_drop, HN.out] at h1
          omega
        have HL8 : Hid ((⟨encAll (vs.drop k), false⟩ : RS).b.length ≤ 1000000000000) := Lib.hid (Nat.le_trans hl8 (by decide))
        have hne8 : ¬ (ad.add k).block = g8 := by
          rw [block_of_add]
          obtain ⟨ad', e, hlt'⟩ := HR.out.lt (by simp [is64]; omega)
          injection e with e
          subst e
          omega
        clear hnum hdr hl8 hkv
        have hcl : (v ≤ 0 ∧ (clampN v : Int) = 0) ∨ ((0 < v ∧ v ≤ 4611686018427387904) ∧ (clampN v : Int) = v) ∨ (4611686018427387904 < v ∧ (clampN v : Int) = 4611686018427387904) := by
          unfold clampN; omega
        rcases hcl with ⟨hv, hcl⟩ | ⟨⟨hv, hv2⟩, hcl⟩ | ⟨hv, hcl⟩
        all_goals
          have HCL := Lib.hid hcl
          clear hcl
          go_wp2_with fail
          go_region_held3 (fun w' => w'.cell? (ad.add k) = some (.int .i64 v)) (first | go_keep | (exact hch9.out.cell (by assumption) hne8))
            ((go_at_call 17; refine (Num_calls g8 d8 ⟨encAll (vs.drop k), false⟩ _ (HRD.out.chg (S := nowhere) ((Chg.refl nowhere _).drew) (fun h => h) (fun h => h)) HL8.out).mono ?_; rintro e w9 ⟨rfl, h9, hch9⟩; rw [HNUM.out, HCL.out]; rw [HNUM.out] at h9))
          all_goals
            have HRD9 := Lib.hid h9.out
            have HCH9 : Hid (Chg nowhere w w9) := Lib.hid (HCH.out.drew.step hch9.out (by rintro x rfl; exact hg8'))
            clear h9 hch9
            go_wp2_with fail
            exact ⟨⟨k + 1, by omega, by go_num, HRD9.out, HCH9.out⟩, by simp [intOf]; omega⟩
      · have e1 : (n : Int) ≤ k := by omega
        have hdn : vs.drop k = [] := List.drop_eq_nil_of_le (by have := HN.out; omega)
        rw [hdn] at HRD
        go_wp2_with fail
        refine (Good_calls g8 d8 _ _ HRD.out).mono ?_
        rintro e w9 ⟨rfl, rfl⟩
        go_wp2_with fail
        refine (Whole_calls g8 d8 _ _ HRD.out (by decide)).mono ?_
        rintro e w10 ⟨rfl, rfl⟩
        go_wp2_with fail
        refine (known_calls _ (HT.out.chg HCH.out (fun h => h))).mono ?_
        rintro e w11 ⟨rfl, h11⟩
        have HC11 := Lib.hid (HCH.out.step h11 (fun _ h => h.elim))
        clear h11
        go_wp2_with fail
        go_ret
        exact ⟨rfl, HC11.out⟩
end Go.Proofs.YtifakldkcjjokaaDoor
