/- What all laws of seg ask besides: two frames of eight bytes. A nil Join. -/
import Derived.Test.YtmeeopfdplaiaaaSgO
import Derived.Lib.SlBytesConst
open Go Go.RowKit
namespace Go.Proofs.Ytmeeopfdplaiaaa
theorem HFs.info {w : World} {l : List FR} (h : HFs w l) {k : Nat} (hk : k < l.length) : Rd w (gt l k).A (bs (gt l k).d) ∧ (gt l k).d.length = (gt l k).n ∧ (gt l k).n ≤ (gt l k).c := h.out _ (gt_mem l k hk)
theorem gt_d (l : List FR) (k : Nat) (x : List (List UInt8)) (h : l.map (·.d) = x) (hk : k < l.length) : (gt l k).d = x.getD k [] := by
  subst h
  simp [gt, List.getD_eq_getElem?_getD, hk]
theorem FIds.at {id : Int} {l : List FR} (h : FIds id l) {k : Nat} (hk : k < l.length) : (gt l k).id = id := h _ (gt_mem l k hk)
theorem map_len {l : List FR} {x : List (List UInt8)} (h : l.map (·.d) = x) : l.length = x.length := by rw [← h, List.length_map]
theorem enc_fr (f : FR) : (RowC.enc f).toArray = #[.int .i64 f.id, .slice f.A f.n f.c] := rfl
/-- one frame taken -/
theorem takeF {w : World} {z : Nat} {S : Nat → Prop} {s : St} (h : JS w z S s) (hN : s.N ≤ 100000000) (hm : s.m ≤ 1000000000) {l : List FR} [hf : HFs w l] {k : Nat} (hk : k < l.length) {id : Int} (hids : FIds id l) (h0 : 0 ≤ id) (h1 : id ≤ 2047) (ho : ∀ ad, (gt l k).A = some ad → (gt l k).d ≠ [] → ¬ S ad.block) (now : Int) (hb : (gt l k).d.length ≤ 1000)
    (h3 : -9223372036854775808 ≤ now) (h4 : now ≤ 9223372036854775807) :
    Calls Try.prog 17 #[.pointer (some ⟨z, 0, none⟩), .agg (RowC.enc (gt l k)).toArray, .int .i64 now] w (TkPost z S w (takeS s id (gt l k).d now)) := by
  obtain ⟨g1, g2, g3⟩ := hf.info hk
  rw [enc_fr, hids.at hk]
  exact take_calls id now h hN hm (wfI (by omega) (by omega)) g1 (fun hne ad e => ho ad e (fun h => hne (by rw [h]; rfl))) g2 g3 (by omega) h3 h4
/-- what Take leaves, seen from the world in which the frames were laid -/
def TkB (wb : World) (z : Nat) (r : Tk) (e : Ending) (w' : World) : Prop :=
  ∃ S' B c, JS w' z S' r.1 ∧ (∀ x, S' x → wb.heap.size ≤ x) ∧ e = .returned (.tuple #[.slice B (r.2.getD []).length c, .bool r.2.isSome]) ∧ Chg nowhere wb w' ∧ Rd w' B (bs (r.2.getD []))
theorem takeB (wb : World) {w : World} {z : Nat} {S : Nat → Prop} {s : St} (h : JS w z S s) (hA : ∀ x, S x → wb.heap.size ≤ x) (hn : Chg nowhere wb w) (hN : s.N ≤ 100000000) (hm : s.m ≤ 1000000000) {l : List FR} (hf : FOk wb l) {k : Nat} (hk : k < l.length) {id : Int} (hids : FIds id l) (h0 : 0 ≤ id) (h1 : id ≤ 2047) (now : Int) (hb : (gt l k).d.length ≤ 1000)
    (h3 : -9223372036854775808 ≤ now) (h4 : now ≤ 9223372036854775807) {d : List UInt8} (hd : (gt l k).d = d) {r : Tk} (hr : takeS s id d now = r) :
    Calls Try.prog 17 #[.pointer (some ⟨z, 0, none⟩), .agg (RowC.enc (gt l k)).toArray, .int .i64 now] w (TkB wb z r) := by
  subst hr
  subst hd
  have hfw : HFs w l := ⟨fun f hf' => ⟨(hf f hf').1.later hn, (hf f hf').2⟩⟩
  refine (takeF h hN hm hk hids h0 h1 (fun ad e hne hS => ?_) now hb h3 h4).mono ?_
  · have h5 := hf _ (gt_mem l k hk)
    have := rd_lt h5.1 (fun hx => hne (by simpa [bs] using hx)) e
    have := hA _ hS
    omega
  · rintro e w' ⟨S', B, c, g1, g2, g3, g4, g5⟩
    refine ⟨S', B, c, g1, fun x hx => ?_, g2, hn.step g3 hA, g5.1⟩
    rcases g4 x hx with h | h
    · exact hA x h
    · exact Nat.le_trans hn.size h
theorem split_small (l : List UInt8) (k : Nat) (h : l.length ≤ 7 ∨ 8 ≤ l.length) (hk : k < (splitS l).length) : ((splitS l).getD k []).length ≤ 8 := by
  rcases h with h | h
  · rw [split_one h] at hk ⊢
    obtain rfl : k = 0 := by simpa using hk
    show (b8 l.length :: l).length ≤ 8
    simp
    omega
  · have hl := split_len l
    rw [if_neg (by omega)] at hl
    cases k with
    | zero => rw [split_get0 h, frF_len h]; omega
    | succ i => rw [split_getS h (by omega), frN_len]; omega
theorem gt_len {l : List FR} {m : List UInt8} (h : l.map (·.d) = splitS m) {k : Nat} (hk : k < l.length) : (gt l k).d.length ≤ 8 := by
  rw [gt_d l k _ h hk]
  exact split_small m k (by omega) (by rwa [← map_len h])
def m8 : List UInt8 := [49, 50, 51, 52, 53, 54, 55, 56]
theorem m8_len : (splitS m8).length = 2 := by rw [split_len]; rfl
set_option maxRecDepth 100000 in
set_option maxHeartbeats 1600000 in
theorem sKnown_calls (w : World) :
    Calls Try.prog 15 #[] w fun e w' => e = .returned (.bool true) ∧ Step nowhere w w' := by
  have kc := fun (w : World) (C : Array Value) (n c : Nat) => Lib.run_convert_bytes_const (P := Try.prog) w 22 5 C n c Try.underlying22 Try.underlying5
  go_enter Try.func15, Try.ntmps15
  go_wp2_with fail
  have h8 : ∀ f, HR (w.alloc (.cells (u8s m8) 5 f)) (some ⟨w.heap.size, 0, none⟩) (bs m8) := fun f => ⟨Rd.lit w (bs m8) 5⟩
  refine (split_calls (m := m8) 1 (h := h8 _) rfl (Nat.le_refl _) (by decide) (by decide) (by decide) (by decide)).mono ?_
  rintro e w1 ⟨FA, fc, l, rfl, hs1, _, hF, hD, hI⟩
  have n1 : Nw w w1 := inferInstance
  have HD := Lib.hid hD
  have HI := Lib.hid hI
  have HL := Lib.hid ((map_len hD).trans m8_len)
  rw [HL.out]
  clear hD hI
  go_wp2_with fail
  refine (newJ_calls _).mono ?_
  rintro e w2 ⟨z, rfl, hs2, hJ, hz⟩
  have hn2 : Chg nowhere w1 w2 := hs2.chg
  have d0 : (gt l 0).d = (splitS m8).getD 0 [] := gt_d l 0 _ HD.out (by rw [HL.out]; decide)
  have d1 : (gt l 1).d = (splitS m8).getD 1 [] := gt_d l 1 _ HD.out (by rw [HL.out]; decide)
  have F0 := feed (s := st0) (id := 1) (now := 0) (last := 0) (l := m8) (p := 0) (by decide) (by decide) (by rw [m8_len]; decide) rfl rfl
  rw [if_neg (by rw [m8_len]; decide)] at F0
  have F1 := feed (s := upd st0 1 (want m8 (0 + 1) 0)) (id := 1) (now := 0) (last := 0) (l := m8) (p := 1) (by decide) (by decide) (by rw [m8_len]; decide) (by rw [upd_G, if_pos rfl]) rfl
  rw [if_pos (by rw [m8_len])] at F1
  have T0 := takeB w1 hJ (fun x hx => by rw [show x = z from hx]; exact hz) hn2 (by decide) (by decide) hF.out (k := 0) (by rw [HL.out]; decide) HI.out (by decide) (by decide) 0 (by have := gt_len HD.out (k := 0) (by rw [HL.out]; decide); omega) (by decide) (by decide) d0 F0
  have HT0 := Lib.hid T0
  have HF1 := Lib.hid F1
  have Hd1 := Lib.hid d1
  clear T0 F0 F1 d0 d1
  have q2 : l.length = 2 := HL.out
  go_wp2_with (first | go_skip | ((with_reducible apply (wpl_guard (op := .convert _ _ _))); exact rfl) | ((with_reducible apply wpl_loadrow); exact rfl; infer_instance; infer_instance; (first | with_reducible assumption | (with_reducible exact H32.size _) | (with_reducible exact enc_sz _ rfl) | kernel_rfl)) | ((with_reducible apply wpl_loadcellN); exact rfl; infer_instance; (first | (exact rfl) | (exact tg_hw _) | (exact tg_ctr _) | (exact tg_ecu _) | (exact srch_who) | (exact srch_fd))) | ((with_reducible apply wpl_indexH); exact rfl; exact rfl; infer_instance; infer_instance; (first | with_reducible assumption | omega); (first | with_reducible assumption | omega); (first | with_reducible assumption | omega)) | ((with_reducible apply wpl_indexH'); exact rfl; exact rfl; infer_instance; infer_instance; (first | with_reducible assumption | omega); (first | with_reducible assumption | omega); (first | with_reducible assumption | omega)) | ((with_reducible apply (wpl_loadhash (t := 70))); exact rfl; infer_instance; infer_instance; (first | with_reducible assumption | omega)) | ((with_reducible apply (wpl_indexE (α := FR) (t := 23))); exact rfl; exact rfl; infer_instance; infer_instance; (first | with_reducible assumption | omega | (focus (simp; done)) | (focus (simp; omega; done)) | decide); exact rfl; (decide); (first | with_reducible assumption | omega | (focus (simp; done)) | (focus (simp; omega; done)) | decide)) | ((with_reducible apply (wpl_indexE0 (α := FR) (t := 23))); exact rfl; infer_instance; infer_instance; (first | with_reducible assumption | omega | (focus (simp; done)) | (focus (simp; omega; done)) | decide); exact rfl; (decide); (first | with_reducible assumption | omega | (focus (simp; done)) | (focus (simp; omega; done)) | decide)) | ((with_reducible apply (wpl_loadE (α := FR) (t := 40))); infer_instance; exact rfl; infer_instance; exact rfl; (decide); (first | with_reducible assumption | omega | (focus (simp; done)) | (focus (simp; omega; done)) | decide)) | ((with_reducible apply (wpl_loadF (α := FR))); infer_instance; exact rfl; infer_instance; exact rfl; (first | with_reducible assumption | omega | (focus (simp; done)) | (focus (simp; omega; done)) | decide); (first | (exact rfl) | (exact tg_hw _) | (exact tg_ctr _) | (exact tg_ecu _) | (exact srch_who) | (exact srch_fd))) | ((with_reducible apply wpl_conv); exact rfl; infer_instance; (first | with_reducible assumption | (focus (simp; done)) | omega); (exact Try.underlying22); (exact Try.underlying5); (exact Try.underlying9)) | ((with_reducible apply (wpl_loadint (t := 3))); exact rfl; infer_instance; infer_instance; (first | with_reducible assumption | omega)) | ((with_reducible apply (wpl_loadbyte (t := 5))); exact rfl; infer_instance; infer_instance; (first | with_reducible assumption | omega)))
  refine HT0.out.mono ?_
  rintro e w3 ⟨S3, B3, c3, hJ3, hA3, rfl, hn3, _⟩
  have st3 : Step nowhere w1 w3 := ⟨hn3⟩
  have hm3 := upd_m st0 1 (want m8 (0 + 1) 0) (fun h => by cases h)
  have T1 := takeB w1 hJ3 hA3 hn3 (by show (upd st0 1 (want m8 (0 + 1) 0)).N ≤ _; rw [upd_N]; decide) (by
    show (upd st0 1 (want m8 (0 + 1) 0)).m ≤ _
    have : st0.m = 0 := rfl
    split at hm3 <;> split at hm3 <;> omega) hF.out (k := 1) (by rw [HL.out]; decide) HI.out (by decide) (by decide) 0 (by have := gt_len HD.out (k := 1) (by rw [HL.out]; decide); omega) (by decide) (by decide) Hd1.out HF1.out
  have HT1 := Lib.hid T1
  clear T1 HF1 hm3 HT0
  go_wp2_with (first | go_skip | ((with_reducible apply (wpl_guard (op := .convert _ _ _))); exact rfl) | ((with_reducible apply wpl_loadrow); exact rfl; infer_instance; infer_instance; (first | with_reducible assumption | (with_reducible exact H32.size _) | (with_reducible exact enc_sz _ rfl) | kernel_rfl)) | ((with_reducible apply wpl_loadcellN); exact rfl; infer_instance; (first | (exact rfl) | (exact tg_hw _) | (exact tg_ctr _) | (exact tg_ecu _) | (exact srch_who) | (exact srch_fd))) | ((with_reducible apply wpl_indexH); exact rfl; exact rfl; infer_instance; infer_instance; (first | with_reducible assumption | omega); (first | with_reducible assumption | omega); (first | with_reducible assumption | omega)) | ((with_reducible apply wpl_indexH'); exact rfl; exact rfl; infer_instance; infer_instance; (first | with_reducible assumption | omega); (first | with_reducible assumption | omega); (first | with_reducible assumption | omega)) | ((with_reducible apply (wpl_loadhash (t := 70))); exact rfl; infer_instance; infer_instance; (first | with_reducible assumption | omega)) | ((with_reducible apply (wpl_indexE (α := FR) (t := 23))); exact rfl; exact rfl; infer_instance; infer_instance; (first | with_reducible assumption | omega | (focus (simp; done)) | (focus (simp; omega; done)) | decide); exact rfl; (decide); (first | with_reducible assumption | omega | (focus (simp; done)) | (focus (simp; omega; done)) | decide)) | ((with_reducible apply (wpl_indexE0 (α := FR) (t := 23))); exact rfl; infer_instance; infer_instance; (first | with_reducible assumption | omega | (focus (simp; done)) | (focus (simp; omega; done)) | decide); exact rfl; (decide); (first | with_reducible assumption | omega | (focus (simp; done)) | (focus (simp; omega; done)) | decide)) | ((with_reducible apply (wpl_loadE (α := FR) (t := 40))); infer_instance; exact rfl; infer_instance; exact rfl; (decide); (first | with_reducible assumption | omega | (focus (simp; done)) | (focus (simp; omega; done)) | decide)) | ((with_reducible apply (wpl_loadF (α := FR))); infer_instance; exact rfl; infer_instance; exact rfl; (first | with_reducible assumption | omega | (focus (simp; done)) | (focus (simp; omega; done)) | decide); (first | (exact rfl) | (exact tg_hw _) | (exact tg_ctr _) | (exact tg_ecu _) | (exact srch_who) | (exact srch_fd))) | ((with_reducible apply wpl_conv); exact rfl; infer_instance; (first | with_reducible assumption | (focus (simp; done)) | omega); (exact Try.underlying22); (exact Try.underlying5); (exact Try.underlying9)) | ((with_reducible apply (wpl_loadint (t := 3))); exact rfl; infer_instance; infer_instance; (first | with_reducible assumption | omega)) | ((with_reducible apply (wpl_loadbyte (t := 5))); exact rfl; infer_instance; infer_instance; (first | with_reducible assumption | omega)))
  refine HT1.out.mono ?_
  rintro e w4 ⟨S4, B4, c4, hJ4, hA4, rfl, hn4, hR4⟩
  have st4 : Step nowhere w1 w4 := ⟨hn4⟩
  have hR5 : HR w4 B4 (bs m8) := ⟨hR4⟩
  have e8 : ((strL m8).toList == [49, 50, 51, 52, 53, 54, 55, 56]) = true := by
    rw [strL_list]
    decide
  clear hR4 HT1
  go_wp2_with (first | go_skip | ((with_reducible apply (wpl_guard (op := .convert _ _ _))); exact rfl) | ((with_reducible apply wpl_conv); exact rfl; (exact hR5); exact rfl; (exact Try.underlying22); (exact Try.underlying5); (exact Try.underlying9)) | ((with_reducible apply (wpl_guard (op := .convert _ _ _))); exact rfl) | ((with_reducible apply wpl_loadrow); exact rfl; infer_instance; infer_instance; (first | with_reducible assumption | (with_reducible exact H32.size _) | (with_reducible exact enc_sz _ rfl) | kernel_rfl)) | ((with_reducible apply wpl_loadcellN); exact rfl; infer_instance; (first | (exact rfl) | (exact tg_hw _) | (exact tg_ctr _) | (exact tg_ecu _) | (exact srch_who) | (exact srch_fd))))
  go_ret
  exact ⟨rfl, stepN⟩
/-- a nil Join -/
theorem niltake_calls (id now : Int) (A : Option Addr) (n c : Nat) (w : World) :
    Calls Try.prog 17 #[.pointer none, .agg #[.int .i64 id, .slice A n c], .int .i64 now] w fun e w' => e = .returned (.tuple #[.slice none 0 0, .bool false]) ∧ Step nowhere w w' := by
  go_enter Try.func17, Try.ntmps17
  go_wp2_with (first | go_skip | ((with_reducible apply (wpl_alloc (dst := some 4))); intro zf wzf _ _ _) | ((with_reducible apply (wpl_box_agg (dst := some 4))); exact rfl; intro zf wzf _ _ _) | ((with_reducible apply (wpl_box_int (dst := some 4))); exact rfl; intro zf wzf _ _ _) | ((with_reducible apply (wpl_box_slice (dst := some 4))); exact rfl; intro zf wzf _ _ _) | ((with_reducible apply (wpl_box_str (dst := some 4))); exact rfl; intro zf wzf _ _ _) | ((with_reducible apply (wpl_box_bool (dst := some 4))); exact rfl; intro zf wzf _ _ _) | ((with_reducible apply (wpl_box_ptr (dst := some 4))); exact rfl; intro zf wzf _ _ _) | ((with_reducible apply wpl_alloc); intro z wz _ _ _) | ((with_reducible apply wpl_box_agg); exact rfl; intro z wz _ _ _) | ((with_reducible apply wpl_box_int); exact rfl; intro z wz _ _ _) | ((with_reducible apply wpl_box_slice); exact rfl; intro z wz _ _ _) | ((with_reducible apply wpl_box_str); exact rfl; intro z wz _ _ _) | ((with_reducible apply wpl_box_bool); exact rfl; intro z wz _ _ _) | ((with_reducible apply wpl_box_ptr); exact rfl; intro z wz _ _ _) | ((with_reducible apply (wpl_guard (op := .load _ _))); exact rfl) | ((with_reducible apply wpl_loadrow); exact rfl; infer_instance; infer_instance; (first | with_reducible assumption | (with_reducible exact H32.size _) | (with_reducible exact enc_sz _ rfl) | kernel_rfl)) | ((with_reducible apply wpl_loadcellN); exact rfl; infer_instance; (first | (exact rfl) | (exact tg_hw _) | (exact tg_ctr _) | (exact tg_ecu _) | (exact srch_who) | (exact srch_fd))) | ((with_reducible apply wpl_storerow); exact rfl; exact rfl; infer_instance; infer_instance; (first | with_reducible assumption | (with_reducible exact H32.size _) | (with_reducible exact enc_sz _ rfl) | kernel_rfl); (first | with_reducible assumption | (with_reducible exact H32.size _) | (with_reducible exact enc_sz _ rfl) | kernel_rfl); (first | (with_reducible exact u8s_one _) | with_reducible assumption | (with_reducible exact enc_one _) | kernel_rfl); intro ws _ _) | ((with_reducible apply wpl_storecell); exact rfl; exact rfl; infer_instance; exact rfl; (first | with_reducible assumption | omega | (focus (simp; done)) | (focus (simp; omega; done)) | decide); intro ws _ _))
  go_ret2
  exact ⟨rfl, stepN⟩
theorem nilerrors_calls (w : World) : Calls Try.prog 19 #[.pointer none] w fun e w' => e = .returned (.int .i64 0) ∧ Step nowhere w w' := by
  go_enter Try.func19, Try.ntmps19
  go_wp2_with fail
  go_ret
  exact ⟨rfl, stepN⟩
theorem nilopen_calls (w : World) : Calls Try.prog 20 #[.pointer none] w fun e w' => e = .returned (.int .i64 0) ∧ Step nowhere w w' := by
  go_enter Try.func20, Try.ntmps20
  go_wp2_with fail
  go_ret
  exact ⟨rfl, stepN⟩
set_option maxRecDepth 100000 in
theorem segNil_calls (id : Int) (A : Option Addr) (n c : Nat) (w : World) :
    Calls Try.prog 8 #[.agg #[.int .i64 id, .slice A n c]] w fun e w' => e = .returned (.bool true) ∧ Chg nowhere w w' := by
  by_cases c1 : 100 < n
  · go_enter Try.func8, Try.ntmps8
    go_wp2_with (first | go_skip | ((with_reducible apply (wpl_box_agg (dst := some 1))); exact rfl; intro zf wzf _ _ _) | ((with_reducible apply (wpl_box_int (dst := some 1))); exact rfl; intro zf wzf _ _ _) | ((with_reducible apply (wpl_box_slice (dst := some 1))); exact rfl; intro zf wzf _ _ _) | ((with_reducible apply (wpl_box_str (dst := some 1))); exact rfl; intro zf wzf _ _ _) | ((with_reducible apply (wpl_box_bool (dst := some 1))); exact rfl; intro zf wzf _ _ _) | ((with_reducible apply (wpl_box_ptr (dst := some 1))); exact rfl; intro zf wzf _ _ _) | ((with_reducible apply wpl_box_agg); exact rfl; intro z wz _ _ _) | ((with_reducible apply wpl_box_int); exact rfl; intro z wz _ _ _) | ((with_reducible apply wpl_box_slice); exact rfl; intro z wz _ _ _) | ((with_reducible apply wpl_box_str); exact rfl; intro z wz _ _ _) | ((with_reducible apply wpl_box_bool); exact rfl; intro z wz _ _ _) | ((with_reducible apply wpl_box_ptr); exact rfl; intro z wz _ _ _) | ((with_reducible apply wpl_loadrow); exact rfl; infer_instance; infer_instance; (first | with_reducible assumption | (with_reducible exact H32.size _) | (with_reducible exact enc_sz _ rfl) | kernel_rfl)) | ((with_reducible apply wpl_loadcellN); exact rfl; infer_instance; (first | (exact rfl) | (exact tg_hw _) | (exact tg_ctr _) | (exact tg_ecu _) | (exact srch_who) | (exact srch_fd))))
    go_ret
    exact ⟨rfl, (stepN (w0 := w)).chg⟩
  · go_enter Try.func8, Try.ntmps8
    go_wp2_with (first | go_skip | ((with_reducible apply (wpl_box_agg (dst := some 1))); exact rfl; intro zf wzf _ _ _) | ((with_reducible apply (wpl_box_int (dst := some 1))); exact rfl; intro zf wzf _ _ _) | ((with_reducible apply (wpl_box_slice (dst := some 1))); exact rfl; intro zf wzf _ _ _) | ((with_reducible apply (wpl_box_str (dst := some 1))); exact rfl; intro zf wzf _ _ _) | ((with_reducible apply (wpl_box_bool (dst := some 1))); exact rfl; intro zf wzf _ _ _) | ((with_reducible apply (wpl_box_ptr (dst := some 1))); exact rfl; intro zf wzf _ _ _) | ((with_reducible apply wpl_box_agg); exact rfl; intro z wz _ _ _) | ((with_reducible apply wpl_box_int); exact rfl; intro z wz _ _ _) | ((with_reducible apply wpl_box_slice); exact rfl; intro z wz _ _ _) | ((with_reducible apply wpl_box_str); exact rfl; intro z wz _ _ _) | ((with_reducible apply wpl_box_bool); exact rfl; intro z wz _ _ _) | ((with_reducible apply wpl_box_ptr); exact rfl; intro z wz _ _ _) | ((with_reducible apply wpl_loadrow); exact rfl; infer_instance; infer_instance; (first | with_reducible assumption | (with_reducible exact H32.size _) | (with_reducible exact enc_sz _ rfl) | kernel_rfl)) | ((with_reducible apply wpl_loadcellN); exact rfl; infer_instance; (first | (exact rfl) | (exact tg_hw _) | (exact tg_ctr _) | (exact tg_ecu _) | (exact srch_who) | (exact srch_fd))))
    refine (niltake_calls id 0 A n c _).mono ?_
    rintro e w1 ⟨rfl, _⟩
    go_wp2_with fail
    refine (nilerrors_calls _).mono ?_
    rintro e w2 ⟨rfl, _⟩
    go_wp2_with fail
    refine (nilopen_calls _).mono ?_
    rintro e w3 ⟨rfl, _⟩
    go_wp2_with fail
    refine (sKnown_calls _).mono ?_
    rintro e w4 ⟨rfl, _⟩
    go_wp2_with fail
    go_ret
    exact ⟨rfl, (stepN (w0 := w)).chg⟩
end Go.Proofs.Ytmeeopfdplaiaaa
