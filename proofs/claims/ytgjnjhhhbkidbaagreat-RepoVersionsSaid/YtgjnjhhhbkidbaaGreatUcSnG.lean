/- SnG -/
import Derived.Test.YtgjnjhhhbkidbaaGreatUcSnD
import Derived.Test.YtgjnjhhhbkidbaaGreatUcSnF
import Derived.Test.YtgjnjhhhbkidbaaGreatUcRoJ
import Derived.Test.YtgjnjhhhbkidbaaGreatUcWzE
open Go Go.RowKit
namespace Go.Proofs.YtgjnjhhhbkidbaaGreat
theorem pinL_le (s : RS) : ∀ k, ∀ p ∈ tkL pinTk s k, p.l.length ≤ s.b.length
 | 0, p, hp => by cases hp
 | k + 1, p, hp => by
  rw [tkL, List.mem_append] at hp
  rcases hp with h | h
  · exact pinL_le s k p h
  · rw [List.mem_singleton.1 h]
    exact Nat.le_trans (RS.row_1 _) (pinTakes.tkS_le s k)
theorem run_pinU (l : List UInt8) (w : World) : (Instr.build 68 #[(0, .string (strL l))]).run Tryz.prog w = .ok (.agg #[.string (strL l), .int .i64 0]) w := by kernel_rfl
theorem run_pin1c (l : List UInt8) (v : Int) (w : World) : (Instr.buildSlice 57 1 #[(0, .agg #[.string (strL l), .int .i64 v])]).run Tryz.prog w = .ok (.slice (some ⟨w.heap.size, 0, none⟩) 1 1) (w.alloc (.cells (cellsOf [(⟨l, v⟩ : PinR)]).toArray 68)) := by kernel_rfl
set_option maxRecDepth 100000 in
set_option maxHeartbeats 6400000 in
theorem rDecodeSnap_calls {A : Option Addr} {n c : Nat} {b : List UInt8} {w : World} [hr : HR w A (bs b)] (hl : b.length = n) (hcap : n ≤ c) (hn : n ≤ 1000000000) :
    Calls Tryz.prog 21 #[.slice A n c] w (DecSn b w) := by
 obtain ⟨S, hS⟩ : ∃ S, S = kindS 3 b := ⟨_, rfl⟩
 obtain ⟨S2, hS2⟩ : ∃ S2, S2 = S.at 2 := ⟨_, rfl⟩
 obtain ⟨S3, hS3⟩ : ∃ S3, S3 = S2.num.2 := ⟨_, rfl⟩
 obtain ⟨N, hN⟩ : ∃ N, N = S2.num.1 := ⟨_, rfl⟩
 obtain ⟨V, hV⟩ : ∃ V, V = S.num.1 := ⟨_, rfl⟩
 obtain ⟨X, hX⟩ : ∃ X, X = (S.at 1).num.1 := ⟨_, rfl⟩
 have hSl : S.b.length ≤ 1000000000 := by
  have := kindS_le 3 b
  rw [← hS] at this
  omega
 have hS2l : S2.b.length ≤ S.b.length := by rw [hS2]; exact S.at_le 2
 have hS3l : S3.b.length ≤ S.b.length := by rw [hS3]; exact Nat.le_trans (RS.num_le S2) hS2l
 have hM : snM b = if snOk b then ((V : Int), (X : Int), snP b, (0 : Int)) else (0, 0, [], 2) := by
  rw [snM, snV, snX, ← hS, ← hV, ← hX]
 have hRF : ∀ (P : List PinR) (s' : RS), GotL pinTk 16 S2 P s' → (wholeB s' && snapOk V X P && decide (b = snapE V X P)) = snOk b ∧ (snOk b = true → P = snP b) := fun P s' h => by
  have h1 := sn_ref (b := b) (P := P) (s' := s') (by rw [snS, ← hS, ← hS2]; exact h)
  rwa [snV, snX, ← hS, ← hV, ← hX] at h1
 have HM := Lib.hid hM
 have HRF := Lib.hid hRF
 have HRR := Lib.hid hr.out
 have HS := Lib.hid hS
 have HV : Hid (S.num.1 = V) := Lib.hid hV.symm
 have HX : Hid ((S.at 1).num.1 = X) := Lib.hid hX.symm
 have HS2 : Hid (S.at 2 = S2) := Lib.hid hS2.symm
 have HS3 : Hid (S2.num.2 = S3) := Lib.hid hS3.symm
 have HN : Hid (S2.num.1 = N) := Lib.hid hN.symm
 have HLE := Lib.hid hl
 have kb0 : ∀ w, (Instr.build 59 #[]).run Tryz.prog w = .ok (.agg #[.int .i64 0, .int .i64 0, .slice none 0 0]) w := fun _ => by kernel_rfl
 unfold DecSn
 clear hS hS2 hS3 hN hV hX hM hRF
 go_enter Tryz.func21, Tryz.ntmps21
 go_wp2_with (first | ((with_reducible apply (wpl_alloc (dst := some 2))); intro zo wzo _ _ _))
 have hro : HR wzo A (bs b) := ⟨HRR.out.later (stepN (w0 := w) (w := wzo)).chg⟩
 have hzow : w.heap.size ≤ zo := Nat.le_of_eq (inferInstance : Born w zo).eq.symm
 refine (rReader_calls (kind := 3) (b := b) HLE.out hcap (by omega)).mono ?_
 rintro e w5 ⟨zr, d, rfl, _, hzr, hltr, h5, hdw⟩
 rw [← HS.out] at h5
 have hszo : w.heap.size ≤ wzo.heap.size := (inferInstance : SzLe w wzo).out
 have hzw : w.heap.size ≤ zr := Nat.le_trans hszo hzr
 have ag : Above w (only zr) := ⟨fun k h => by have h' : k = zr := h; omega⟩
 have hzol := (inferInstance : HB wzo zo 59 #[.int .i64 0, .int .i64 0, .slice none 0 0]).out.lt
 have ozr : OffB (only zr) zo := ⟨fun e => by have e' : zo = zr := e; omega⟩
 have hd5 : S.b ≠ [] → d < w5.heap.size := fun h => h5.out.dlt h
 have H5 := Lib.hid h5
 clear h5
 go_wp2_with (first | ((with_reducible apply (wpl_alloc (dst := some 5))); intro zt wzt _ _ _))
 have hzt : w5.heap.size ≤ zt := Nat.le_of_eq (inferInstance : Born w5 zt).eq.symm
 have hztl : zt < wzt.heap.size := (inferInstance : HB wzt zt 59 #[.int .i64 0, .int .i64 0, .slice none 0 0]).out.lt
 have otr : OffB (only zr) zt := ⟨fun e => by have e' : zt = zr := e; omega⟩
 have hs5 : wzo.heap.size ≤ w5.heap.size := (inferInstance : SzLe wzo w5).out
 have hst5 : w5.heap.size ≤ wzt.heap.size := (inferInstance : SzLe w5 wzt).out
 have at_ : Above w (only zt) := ⟨fun k h => by have h' : k = zt := h; omega⟩
 have oto : OffB (only zt) zo := ⟨fun e => by have e' : zo = zt := e; omega⟩
 have hszt : w.heap.size ≤ wzt.heap.size := (inferInstance : SzLe w wzt).out
 have far : ∀ (s : RS) (w1 w2 : World), s.b.length ≤ S.b.length → Step (only zt) w1 w2 → RRAt w1 zr d s → RRAt w2 zr d s := fun s w1 w2 hs st h => h.chg2 st.chg (fun e => by have e' : zr = zt := e; omega) (fun hne e => by have e' : d = zt := e; have := hd5 (ne_of_le hs hne); omega)
 have l1 : (S.at 1).b.length ≤ S.b.length := S.at_le 1
 have H5b := Lib.hid (H5.out.out.chg (stepN (w0 := w5) (w := wzt)).chg (fun h => h) (fun h => h))
 refine (rrNum_calls zr d S wzt H5b.out (by omega)).mono ?_
 rw [HV.out]
 rintro e w6 ⟨rfl, h6, c6⟩
 have st6 : Step (only zr) wzt w6 := ⟨c6.out⟩
 have ht6 : HB w6 zt 59 #[.int .i64 0, .int .i64 0, .slice none 0 0] := inferInstance
 have hC6 : Hid (Chg (gz2 zr zt) wzt w6) := Lib.hid (c6.out.mono (T := gz2 zr zt) (fun _ _ h => .inl h))
 go_wp2_with (first | ((with_reducible apply wpl_storecell); exact rfl; exact rfl; infer_instance; exact rfl; (first | (with_reducible assumption) | omega | (focus (simp; done)) | (focus (simp; omega; done)) | decide); intro ws _ _))
 have ht6b : HB ws zt 59 #[.int .i64 V, .int .i64 0, .slice none 0 0] := HB.row_eqR (w := ws) (g := zt) inferInstance rfl
 have H6b := Lib.hid (far (S.at 1) w6 ws l1 inferInstance h6.out)
 have hC6b : Hid (Chg (gz2 zr zt) wzt ws) := Lib.hid (hC6.out.trans (inferInstance : Step (only zt) w6 ws).chg (fun _ _ h => .inr h))
 clear h6 c6
 refine (rrNum_calls zr d (S.at 1) _ H6b.out (by omega)).mono ?_
 rw [HX.out]
 rintro e w7 ⟨rfl, h7, c7⟩
 have st7 : Step (only zr) ws w7 := ⟨c7.out⟩
 have ht7 : HB w7 zt 59 #[.int .i64 V, .int .i64 0, .slice none 0 0] := inferInstance
 have hC7 : Hid (Chg (gz2 zr zt) wzt w7) := Lib.hid (hC6b.out.trans c7.out (fun _ _ h => .inl h))
 have hzo7 : HB w7 zo 59 #[.int .i64 0, .int .i64 0, .slice none 0 0] := inferInstance
 clear ht6b ht6 c7 hC6 hC6b
 go_wp2_with (first | ((with_reducible apply wpl_storecell); exact rfl; exact rfl; exact ht7; exact rfl; exact (show 1 < 3 by decide); intro wk _ ht8r; have ht8 : HB wk zt 59 #[.int .i64 V, .int .i64 X, .slice none 0 0] := HB.row_eqR ht8r rfl; clear ht8r))
 have hzo8 : HB wk zo 59 #[.int .i64 0, .int .i64 0, .slice none 0 0] := inferInstance
 have H8 : Hid (RRAt wk zr d S2) := Lib.hid (far S2 w7 wk hS2l inferInstance (by rw [← HS2.out]; exact h7.out))
 have hC8 : Hid (Chg (gz2 zr zt) wzt wk) := Lib.hid (hC7.out.trans (inferInstance : Step (only zt) w7 wk).chg (fun _ _ h => .inr h))
 clear h7 ht7 hzo7 hC7
 refine (rrNum_calls zr d S2 _ H8.out (by omega)).mono ?_
 rw [HN.out, HS3.out]
 rintro e w8 ⟨rfl, h8, c8⟩
 have st8 : Step (only zr) wk w8 := ⟨c8.out⟩
 have ht8b : HB w8 zt 59 #[.int .i64 V, .int .i64 X, .slice none 0 0] := inferInstance
 have hzo8b : HB w8 zo 59 #[.int .i64 0, .int .i64 0, .slice none 0 0] := inferInstance
 have hC8b : Hid (Chg (gz2 zr zt) wzt w8) := Lib.hid (hC8.out.trans c8.out (fun _ _ h => .inl h))
 have hs8 : wzt.heap.size ≤ w8.heap.size := hC8b.out.size
 clear c8 ht8 hzo8 hC8
 go_wp2_with fail
 go_loopw [7] (fun iv wr => ∃ (k : Nat) (A1 : Option Addr) (c1 : Nat), k ≤ N ∧ k ≤ 17 ∧ iv = .int .i64 (k : Int) ∧ k ≤ c1 ∧ Hid (Chg (gz2 zr zt) wzt wr) ∧ HO wr 68 2 A1 k c1 (cellsOf (tkL pinTk S3 k)) ∧ NewA wzt A1 ∧ HB wr zt 59 #[.int .i64 V, .int .i64 X, .slice A1 k c1] ∧ HB wr zo 59 #[.int .i64 0, .int .i64 0, .slice none 0 0] ∧ Hid (RRAt wr zr d (tkS pinTk S3 k))) (fun iv _ => 17 - (intOf iv).toNat)
 case atStart => exact ⟨0, none, 0, Nat.zero_le _, Nat.zero_le _, rfl, Nat.le_refl _, hC8b, ⟨Own.nil _ _ _⟩, newA_none _, ht8b, hzo8b, h8⟩
 case round =>
  clear st8 h8 ht8b hzo8b hC8b hs8
  obtain ⟨k, A1, c1, hkN, hk17, rfl, hkc, hC, hO, hA1, ht, hzo, hR⟩ := hrel
  obtain ⟨Ar, nr', cr', hrd⟩ := hR.out.blk
  have hsl := pinTakes.tkS_le S3 k
  have hszr := hC.out.size
  by_cases hgo : k < N ∧ (tkS pinTk S3 k).e = false ∧ k ≤ 16
  · obtain ⟨hlt, hee, hle⟩ := hgo
    have hltI : (k : Int) < N := by omega
    have hleI : (k : Int) ≤ 16 := by omega
    rw [hee] at hrd
    obtain ⟨s, hs⟩ : ∃ s, s = tkS pinTk S3 k := ⟨_, rfl⟩
    have hsk1 : tkS pinTk S3 (k + 1) = s.row.2.num.2 := by rw [hs]; rfl
    have hskl : (tkS pinTk S3 (k + 1)).b.length ≤ S.b.length := Nat.le_trans (pinTakes.tkS_le S3 (k + 1)) hS3l
    have htl : tkL pinTk S3 k ++ [(⟨s.row.1, (s.row.2.num.1 : Nat)⟩ : PinR)] = tkL pinTk S3 (k + 1) := by rw [hs]; rfl
    have HTL := Lib.hid htl
    have HSK := Lib.hid hsk1
    have HR1 : Hid (RRAt wr zr d s) := Lib.hid (by rw [hs]; exact hR.out)
    have hsl1 : s.b.length ≤ S.b.length := by rw [hs]; exact Nat.le_trans hsl hS3l
    have hsl2 : s.row.2.b.length ≤ S.b.length := Nat.le_trans (RS.row_le s) hsl1
    obtain ⟨L, hL⟩ : ∃ L, L = s.row.1 := ⟨_, rfl⟩
    obtain ⟨v, hv⟩ : ∃ v, v = s.row.2.num.1 := ⟨_, rfl⟩
    have HL : Hid (s.row.1 = L) := Lib.hid hL.symm
    have HVV : Hid (s.row.2.num.1 = v) := Lib.hid hv.symm
    have kbU := run_pinU L
    have kb1 := run_pin1c L (v : Int)
    have hCr := hC
    have ozA : OffA (only zt) A1 := ⟨fun ad e h => by have h' : ad.block = zt := h; have := hA1.out ad e; omega⟩
    have orA : OffA (only zr) A1 := ⟨fun ad e h => by have h' : ad.block = zr := h; have := hA1.out ad e; omega⟩
    have orz : OffB (rowOf A1) zt := ⟨fun ⟨ad, e, h⟩ => by have := hA1.out ad e; omega⟩
    have oro : OffB (rowOf A1) zo := ⟨fun ⟨ad, e, h⟩ => by have := hA1.out ad e; omega⟩
    clear hC hR hs hsk1 htl hL hv hsl
    go_wp2_with (first | ((with_reducible apply wpl_loadcellN); exact rfl; exact hrd; exact rfl) | ((with_reducible apply (wpl_guard (op := .load _ _))); exact rfl) | ((with_reducible apply (wpl_guard (op := .fieldAddr _ _ _))); exact rfl))
    refine (rReadText_calls HR1.out (by omega)).mono ?_
    rw [HL.out]
    rintro e w9 ⟨rfl, st9, h9⟩
    have ht9 : HB w9 zt 59 #[.int .i64 V, .int .i64 X, .slice A1 k c1] := inferInstance
    have hzo9 : HB w9 zo 59 #[.int .i64 0, .int .i64 0, .slice none 0 0] := inferInstance
    have hO9 : HO w9 68 2 A1 k c1 (cellsOf (tkL pinTk S3 k)) := inferInstance
    go_wp2_with (first | ((with_reducible apply wpl_build); exact kbU _) | ((with_reducible apply (wpl_alloc (dst := some 8))); intro z8 wz8 _ _ _) | ((with_reducible apply wpl_storerow); exact rfl; exact rfl; infer_instance; infer_instance; (first | (with_reducible assumption) | (with_reducible exact H32.size _) | kernel_rfl); (first | (with_reducible assumption) | (with_reducible exact H32.size _) | kernel_rfl); (first | (with_reducible exact u8s_one _) | (with_reducible assumption) | kernel_rfl); intro ws _ _))
    have hz8 : w9.heap.size ≤ z8 := Nat.le_of_eq (inferInstance : Born w9 z8).eq.symm
    have hp8 : HB ws z8 68 #[.string (strL L), .int .i64 0] := inferInstance
    have nw9 : Nw w9 ws := inferInstance
    have hr9 : zr < w9.heap.size := h9.out.lt
    have o8 : OffB (only zr) z8 := ⟨fun e => by have e' : z8 = zr := e; omega⟩
    have hztw9 : zt < w9.heap.size := ht9.out.lt
    have hzow9 : zo < w9.heap.size := hzo9.out.lt
    refine (rrNum_calls zr d s.row.2 ws (h9.out.chg nw9.out (fun h => h) (fun h => h)) (by omega)).mono ?_
    rw [HVV.out]
    rintro e w10 ⟨rfl, h10, c10⟩
    have st10 : Step (only zr) ws w10 := ⟨c10.out⟩
    have hp10 : HB w10 z8 68 #[.string (strL L), .int .i64 0] := inferInstance
    have ht10 : HB w10 zt 59 #[.int .i64 V, .int .i64 X, .slice A1 k c1] := inferInstance
    have hzo10 : HB w10 zo 59 #[.int .i64 0, .int .i64 0, .slice none 0 0] := inferInstance
    have hO10 : HO w10 68 2 A1 k c1 (cellsOf (tkL pinTk S3 k)) := inferInstance
    have hC10 : Hid (Chg (gz2 zr zt) wzt w10) := Lib.hid (((hCr.out.trans st9.chg (fun _ _ h => .inl h)).trans nw9.out (fun _ _ h => h.elim)).trans c10.out (fun _ _ h => .inl h))
    have H10 : Hid (RRAt w10 zr d (tkS pinTk S3 (k + 1))) := Lib.hid (by rw [HSK.out]; exact h10.out)
    have hs10 : w9.heap.size ≤ w10.heap.size := Nat.le_trans nw9.out.size c10.out.size
    have o8t : OffB (only z8) zt := ⟨fun e => by have e' : zt = z8 := e; omega⟩
    have o8o : OffB (only z8) zo := ⟨fun e => by have e' : zo = z8 := e; omega⟩
    have o8A : OffA (only z8) A1 := ⟨fun ad e h => by
     have h' : ad.block = z8 := h
     have := hO9.out.lt e
     omega⟩
    clear h9 h10 c10 hp8 ht9 hzo9 hO9
    go_wp2_with (first | ((with_reducible apply (stop_dst (dst := some 45))); (with_reducible apply wpl_loadrow); exact rfl; exact hp11; infer_instance; exact rfl) | ((with_reducible apply wpl_storecell); exact rfl; exact rfl; exact hp10; exact rfl; exact (show 1 < 2 by decide); intro wk8 _ hp11r; have hp11 : HB wk8 z8 68 #[.string (strL L), .int .i64 v] := HB.row_eqR hp11r rfl; clear hp11r) | ((with_reducible apply (stop_dst (dst := some 46))); (try simp only [Act.put, sA, sB, sC]); ((with_reducible apply (wpl_bslice (dst := some 46))); exact kb1 _; intro zb wb _ _ _)) | ((with_reducible apply (wpl_appendR (α := PinR))); exact rfl; exact rfl; infer_instance; infer_instance; exact HB.cells inferInstance; exact rfl; exact rfl; omega; (decide); (decide); intro A2 c2 wa _ _ hG hcap2) | ((with_reducible apply wpl_loadcellN); exact rfl; infer_instance; exact rfl) | ((with_reducible apply wpl_storecell); exact rfl; exact rfl; infer_instance; exact rfl; (first | (with_reducible assumption) | omega | (focus (simp; done)) | (focus (simp; omega; done)) | decide); intro ws _ _))
    have hNX : tkL pinTk S3 k ++ [(⟨L, (v : Nat)⟩ : PinR)] = tkL pinTk S3 (k + 1) := by
     have h9 := HTL.out
     rwa [HL.out, HVV.out] at h9
    have HNX := Lib.hid hNX
    have hc1 : Chg (only z8) w10 wk8 := (inferInstance : Step (only z8) w10 wk8).chg
    have hc2 : Chg (rowOf A1) wk8 wa := (inferInstance : Ch (rowOf A1) wk8 wa).out
    have hc3 : Chg (only zt) wa ws := (inferInstance : Step (only zt) wa ws).chg
    have hs9 : wzt.heap.size ≤ w9.heap.size := Nat.le_trans hszr st9.chg.size
    have hsb : w10.heap.size ≤ wb.heap.size := (inferInstance : SzLe w10 wb).out
    have hdk : (tkS pinTk S3 (k + 1)).b ≠ [] → d < w5.heap.size := fun h => hd5 (ne_of_le hskl h)
    have hA2 : NewA wzt A2 := newA_grew hG hA1 (by omega)
    clear hNX
    refine ⟨⟨k + 1, A2, c2, by omega, by omega, by go_num, hcap2, Lib.hid ?_, ?_, hA2, inferInstance, inferInstance, Lib.hid ?_⟩, by simp [intOf]; omega⟩
    · exact ((hC10.out.trans hc1 (fun x hx h => by have h' : x = z8 := h; omega)).trans hc2 (fun x hx ⟨ad, e, h⟩ => by have := hA1.out ad e; omega)).trans hc3 (fun _ _ h => .inr h)
    · rw [← HNX.out]; infer_instance
    · exact ((H10.out.far hc1 (m := w5.heap.size) (fun x h => by have h' : x = z8 := h; omega) hltr hdk).far hc2 (m := w5.heap.size) (fun x ⟨ad, e, h⟩ => by have := hA1.out ad e; omega) hltr hdk).far hc3 (m := w5.heap.size) (fun x h => by have h' : x = zt := h; omega) hltr hdk
  · have HGL : Hid (GotL pinTk 16 S2 (tkL pinTk S3 k) (tkS pinTk S3 k)) := Lib.hid (by
      refine ⟨k, hk17, by rw [HN.out]; exact hkN, ?_, by rw [HS3.out], by rw [HS3.out]⟩
      rw [HN.out, HS3.out]
      cases hee : (tkS pinTk S3 k).e
      · by_cases hlt : k < N
        · exact .inr (.inl (by have : ¬ k ≤ 16 := fun h => hgo ⟨hlt, hee, h⟩; omega))
        · exact .inl (by omega)
      · exact .inr (.inr rfl))
    have hcase : (¬ k < N) ∨ (k < N ∧ (tkS pinTk S3 k).e = true) ∨ (k < N ∧ (tkS pinTk S3 k).e = false ∧ ¬ k ≤ 16) := by
     by_cases hlt : k < N
     · cases hee : (tkS pinTk S3 k).e
       · exact .inr (.inr ⟨hlt, rfl, fun h => hgo ⟨hlt, hee, h⟩⟩)
       · exact .inr (.inl ⟨hlt, rfl⟩)
     · exact .inl hlt
    obtain ⟨s', hs'⟩ : ∃ s', s' = tkS pinTk S3 k := ⟨_, rfl⟩
    obtain ⟨P, hP⟩ : ∃ P, P = tkL pinTk S3 k := ⟨_, rfl⟩
    have hPl : P.length = k := by rw [hP, tkL_len]
    have HPN : Hid (∀ p ∈ P, p.l.length ≤ 9223372036854775807) := Lib.hid (fun p hp => by
     rw [hP] at hp
     have := pinL_le S3 k p hp
     omega)
    have hRF := HRF.out _ _ HGL.out
    rw [← hs', ← hP] at hRF
    have HF := Lib.hid hRF
    have hsl2 : s'.b.length ≤ 1000000000 := by rw [hs']; omega
    rw [← hs'] at hR hcase hrd
    rw [← hP] at hO
    have HR' := hR
    have hCr := hC
    have HO' : Hid (Rd wr A1 (cellsOf P)) := Lib.hid hO.out.rd
    obtain ⟨I, hI⟩ : ∃ I, I = snapOk V X P := ⟨_, rfl⟩
    have HI := Lib.hid hI
    have nwr : Nw w wr := ⟨((stepN (w0 := w) (w := wzt)).chg).trans hC.out (fun x hx h => by rcases h with h | h <;> omega)⟩
    have hrP : HR wr A1 (cellsOf P) := ⟨hO.out.rd⟩
    clear hgo hC hR hs' hP hRF hI hO HGL hsl
    rcases hcase with hlt | ⟨hlt, hee⟩ | ⟨hlt, hee, hle4⟩
    focus
     have hltI : ¬ (k : Int) < N := by omega
     clear hlt
     go_wp2_with (first | ((with_reducible apply wpl_loadrow); exact rfl; infer_instance; infer_instance; (first | (with_reducible assumption) | (with_reducible exact H32.size _) | kernel_rfl)))
     refine (rEncodeSnap_calls V X (P := P) hPl (by omega) HPN.out).mono ?_
    rotate_left
    focus
     have hltI : (k : Int) < N := by omega
     rw [hee] at hrd
     clear hlt hee
     go_wp2_with (first | ((with_reducible apply wpl_loadcellN); exact rfl; exact hrd; exact rfl) | ((with_reducible apply (wpl_guard (op := .load _ _))); exact rfl) | ((with_reducible apply (wpl_guard (op := .fieldAddr _ _ _))); exact rfl) | ((with_reducible apply wpl_loadrow); exact rfl; infer_instance; infer_instance; (first | (with_reducible assumption) | (with_reducible exact H32.size _) | kernel_rfl)))
     refine (rEncodeSnap_calls V X (P := P) hPl (by omega) HPN.out).mono ?_
    rotate_left
    focus
     have hltI : (k : Int) < N := by omega
     have hleI : ¬ (k : Int) ≤ 16 := by omega
     rw [hee] at hrd
     clear hlt hee hle4
     go_wp2_with (first | ((with_reducible apply wpl_loadcellN); exact rfl; exact hrd; exact rfl) | ((with_reducible apply (wpl_guard (op := .load _ _))); exact rfl) | ((with_reducible apply (wpl_guard (op := .fieldAddr _ _ _))); exact rfl) | ((with_reducible apply wpl_loadrow); exact rfl; infer_instance; infer_instance; (first | (with_reducible assumption) | (with_reducible exact H32.size _) | kernel_rfl)))
     refine (rEncodeSnap_calls V X (P := P) hPl (by omega) HPN.out).mono ?_
    rotate_left
    all_goals
     unfold EncPost
     rw [← HI.out] at HF ⊢
     cases I
     case false =>
      have HNO : Hid (snOk b = false) := Lib.hid (by rw [← HF.out.1]; simp)
      rintro e w12 ⟨st12, h12⟩
      obtain rfl : e = _ := h12
      go_wp2_with fail
      have nw12 : Nw w w12 := inferInstance
      have hb12 : HR w12 A (bs b) := nw12.hrR HRR.out
      have hn12 : HR w12 none (bs []) := HR.nilB w12
      have HR12 : RRAt w12 zr d s' := HR'.out.chg st12.chg (fun h => h) (fun h => h)
      refine (rJust_calls (b := b) (y := []) (e0 := 1) HR12 (by omega) HLE.out rfl).mono ?_
      rw [show (wholeB s' && decide ((1 : Int) = 0) && decide (b = [])) = false by simp]
      rintro e w13 ⟨rfl, rfl⟩
      go_wp2_with (first | ((with_reducible apply wpl_build); exact kb0 _) | ((with_reducible apply wpl_storerow); exact rfl; exact rfl; infer_instance; infer_instance; (first | (with_reducible assumption) | (with_reducible exact H32.size _) | kernel_rfl); (first | (with_reducible assumption) | (with_reducible exact H32.size _) | kernel_rfl); (first | (with_reducible exact u8s_one _) | (with_reducible assumption) | kernel_rfl); intro ws _ _))
      refine ret_row_ rfl rfl rfl (n := 3) rfl rfl ⟨stepN, 0, 0, none, 0, 0, [], 2, rfl, Lib.hid ⟨?_, rfl, Nat.le_refl _, Nat.zero_le _⟩, Lib.hid (Rd.nil _ _), newA_none _⟩
      rw [HM.out, HNO.out]
      rfl
     case true =>
      rintro e w12 ⟨st12, A5, n5, c5, rfl, hn5, hO5, hA5⟩
      have HN5 := Lib.hid hn5
      have HO5 := Lib.hid hO5.out.rd
      clear hn5 hO5
      go_wp2_with fail
      have nw12 : Nw w w12 := inferInstance
      have hb12 : HR w12 A (bs b) := nw12.hrR HRR.out
      have hy12 : HR w12 A5 (bs (snapE V X P)) := ⟨HO5.out⟩
      have HR12 : RRAt w12 zr d s' := HR'.out.chg st12.chg (fun h => h) (fun h => h)
      refine (rJust_calls (b := b) (y := snapE V X P) (e0 := 0) HR12 (by omega) HLE.out HN5.out.symm).mono ?_
      have e9 : (wholeB s' && decide ((0 : Int) = 0) && decide (b = snapE V X P)) = snOk b := HF.out.1
      rw [e9]
      clear e9
      have ht12 : HB w12 zt 59 #[.int .i64 V, .int .i64 X, .slice A1 k c1] := inferInstance
      have hzo12 : HB w12 zo 59 #[.int .i64 0, .int .i64 0, .slice none 0 0] := inferInstance
      cases hOK : snOk b
      case false =>
       have HNO := Lib.hid hOK
       clear hOK
       rintro e w13 ⟨rfl, rfl⟩
       go_wp2_with (first | ((with_reducible apply wpl_build); exact kb0 _) | ((with_reducible apply wpl_storerow); exact rfl; exact rfl; infer_instance; infer_instance; (first | (with_reducible assumption) | (with_reducible exact H32.size _) | kernel_rfl); (first | (with_reducible assumption) | (with_reducible exact H32.size _) | kernel_rfl); (first | (with_reducible exact u8s_one _) | (with_reducible assumption) | kernel_rfl); intro ws _ _))
       refine ret_row_ rfl rfl rfl (n := 3) rfl rfl ⟨stepN, 0, 0, none, 0, 0, [], 2, rfl, Lib.hid ⟨?_, rfl, Nat.le_refl _, Nat.zero_le _⟩, Lib.hid (Rd.nil _ _), newA_none _⟩
       rw [HM.out, HNO.out]
       rfl
      case true =>
       have HYE : Hid (snM b = ((V : Int), (X : Int), P, (0 : Int))) := Lib.hid (by rw [HM.out, hOK, HF.out.2 hOK]; rfl)
       have HK16 : Hid (k ≤ 16) := Lib.hid (by
        have h9 := HI.out.symm
        unfold snapOk at h9
        simp only [Bool.and_eq_true, decide_eq_true_eq] at h9
        rw [← hPl]
        exact h9.1.1.2)
       clear hOK
       rintro e w13 ⟨rfl, rfl⟩
       go_wp2_with (first | ((with_reducible apply wpl_loadrow); exact rfl; infer_instance; infer_instance; (first | (with_reducible assumption) | (with_reducible exact H32.size _) | kernel_rfl)) | ((with_reducible apply wpl_storerow); exact rfl; exact rfl; infer_instance; infer_instance; (first | (with_reducible assumption) | (with_reducible exact H32.size _) | kernel_rfl); (first | (with_reducible assumption) | (with_reducible exact H32.size _) | kernel_rfl); (first | (with_reducible exact u8s_one _) | (with_reducible assumption) | kernel_rfl); intro ws _ _))
       have hcF : Chg (only zo) wr ws := (inferInstance : Ch (only zo) wr ws).out
       refine ret_row_ rfl rfl rfl (n := 3) rfl rfl ⟨stepN, V, X, A1, k, c1, P, 0, rfl, Lib.hid ⟨HYE.out.symm, hPl, hkc, HK16.out⟩, Lib.hid ?_, ⟨fun ad e => Nat.le_trans hszt (hA1.out ad e)⟩⟩
       exact HO'.out.chg hcF (fun _ ad e h => by
        have h' : ad.block = zo := h
        have := hA1.out ad e
        omega)
end Go.Proofs.YtgjnjhhhbkidbaaGreat
