/- FwJ -/
import Derived.Test.YtgjnjhhhbkidbaaGreatUcFwC
import Derived.Test.YtgjnjhhhbkidbaaGreatUcFwI
open Go Go.RowKit
namespace Go.Proofs.YtgjnjhhhbkidbaaGreat
theorem run_dlU (l : List UInt8) (w : World) : (Instr.build 115 #[(0, .string (strL l))]).run Tryz.prog w = .ok (.agg #[.string (strL l), .slice none 0 0, .int .i64 0, .string ⟨#[]⟩, .bool false]) w := by kernel_rfl
def dlW (l : List UInt8) (k : KR) (pre : List UInt8) (b : Bool) : Array Value := #[.string (strL l), .slice k.A k.n k.c, .int .i64 k.need, .string (strL pre), .bool b]
set_option maxRecDepth 100000 in
set_option maxHeartbeats 3200000 in
theorem rReadDele_calls {g d : Nat} {s : RS} {w : World} (hw : RRAt w g d s) (hl : s.b.length ≤ 1000000000) :
    Calls Tryz.prog 51 #[.pointer (some ⟨g, 0, none⟩)] w fun e w' => ∃ (x : DeleR) (s' : RS), e = .returned (.agg (RowC.enc x).toArray) ∧ Step (only g) w w' ∧ Hid (RRAt w' g d s') ∧ Hid (GotD s x.m s') ∧ Hid (DIn w' x ∧ NewA w x.k.A) := by
 have HW0 := Lib.hid hw
 have HL := Lib.hid hl
 have hgl := hw.lt
 have hdl := hw.dlt
 obtain ⟨s1, hs1⟩ : ∃ x, x = s.row.2 := ⟨_, rfl⟩
 have e1 : s1.b.length ≤ s.b.length := by rw [hs1]; exact RS.row_le _
 obtain ⟨l, hl0⟩ : ∃ x, x = s.row.1 := ⟨_, rfl⟩
 have HP0 := Lib.hid hl0
 have HS1 := Lib.hid hs1
 have kbU := run_dlU l
 have hz0 : zeroDl.size = 5 := rfl
 clear hw hl hs1 hl0
 go_enter Tryz.func51, Tryz.ntmps51
 go_wp2_with (first | ((with_reducible apply (wpl_alloc (dst := some 2))); intro zo wzo _ _ _))
 have hzo : w.heap.size ≤ zo := Nat.le_of_eq (inferInstance : Born w zo).eq.symm
 have hzol : zo < wzo.heap.size := (inferInstance : HB wzo zo 115 zeroDl).out.lt
 have ozo : OffB (only g) zo := ⟨fun e => by have e' : zo = g := e; omega⟩
 refine (rReadText_calls (HW0.out.chg (stepN (w0 := w)).chg (fun h => h) (fun h => h)) HL.out).mono ?_
 rw [← HP0.out, ← HS1.out]
 rintro e w2 ⟨rfl, st2, h2⟩
 have H2 := Lib.hid h2.out
 clear h2
 have hs2 : wzo.heap.size ≤ w2.heap.size := st2.chg.size
 have hwz : w.heap.size ≤ wzo.heap.size := (inferInstance : SzLe w wzo).out
 go_wp2_with (first | ((with_reducible apply wpl_build); exact kbU _) | ((with_reducible apply (wpl_alloc (dst := some 3))); intro zt wzt _ _ _) | ((with_reducible apply wpl_storerow); exact rfl; exact rfl; infer_instance; infer_instance; (first | (with_reducible assumption) | (with_reducible exact H32.size _) | (with_reducible exact enc_sz _ rfl) | kernel_rfl); (first | (with_reducible assumption) | (with_reducible exact H32.size _) | (with_reducible exact enc_sz _ rfl) | kernel_rfl); (first | (with_reducible exact u8s_one _) | (with_reducible assumption) | (with_reducible exact enc_one _) | kernel_rfl); intro ws _ _))
 have hzt2 : w2.heap.size ≤ zt := Nat.le_of_eq (inferInstance : Born w2 zt).eq.symm
 have otr : OffB (only g) zt := ⟨fun e => by have e' : zt = g := e; omega⟩
 have oto : OffB (only zt) zo := ⟨fun e => by have e' : zo = zt := e; omega⟩
 have far : ∀ (x : RS) (w1 w2 : World), x.b.length ≤ s.b.length → Step (only zt) w1 w2 → RRAt w1 g d x → RRAt w2 g d x := fun x w1 w2 hx st h => h.far st.chg (m := w.heap.size) (fun y hy => by have hy' : y = zt := hy; omega) hgl (fun h9 => hdl (ne_of_le hx h9))
 have at_ : Above w (only zt) := ⟨fun k h => by have h' : k = zt := h; omega⟩
 have ht3 : HB ws zt 115 #[.string (strL l), .slice none 0 0, .int .i64 0, .string ⟨#[]⟩, .bool false] := inferInstance
 have ho3 : HB ws zo 115 zeroDl := inferInstance
 have H3 := Lib.hid (far s1 wzt ws e1 inferInstance (H2.out.chg (stepN (w0 := w2) (w := wzt)).chg (fun h => h) (fun h => h)))
 have st3 : Step (only g) w ws := stepC
 have hs3 : w2.heap.size ≤ ws.heap.size := (inferInstance : SzLe w2 ws).out
 have hztl3 : zt < ws.heap.size := ht3.out.lt
 clear H2
 generalize ws = w3 at *
 refine (rReadKeys_calls H3.out (by have := HL.out; omega)).mono ?_
 rintro e w4 ⟨k, need, s2, rfl, st4, h4, hq, hk⟩
 have HK4 := Lib.hid hk.out.1
 have hkA := hk.out.2
 have HQ := hq
 have e2 : s2.b.length ≤ s1.b.length := hq.out.1.le
 have ht4 : HB w4 zt 115 #[.string (strL l), .slice none 0 0, .int .i64 0, .string ⟨#[]⟩, .bool false] := inferInstance
 have ho4 : HB w4 zo 115 zeroDl := inferInstance
 have hlow : ∀ x, inRow k.A k.l x → w3.heap.size ≤ x := fun x ⟨_, ad, e, h⟩ => by
  have h9 := hkA.out ad e
  omega
 have HLOW := Lib.hid hlow
 have hsk : (RowC.enc k).toArray.size = 2 := rfl
 have hok := enc_one k
 clear hk hq hlow
 go_wp2_with (first | ((with_reducible apply wpl_storepart); exact rfl; exact rfl; exact ht4; infer_instance; exact hsk; (decide); exact (show 1 + 2 ≤ 5 by decide); exact hok; (exact (show _ = (dlW l k [] false).toList from rfl)); intro wp _ ht5b))
 have ht5 : HB wp zt 115 (dlW l k [] false) := ht5b
 have ho5 : HB wp zo 115 zeroDl := inferInstance
 have stz5 : Step (only zt) w4 wp := inferInstance
 have H5 := Lib.hid (far s2 w4 wp (by omega) stz5 h4.out)
 have st5 : Step (only g) w wp := stepC
 have HK5 : Hid (KIn wp k) := Lib.hid (KIn.chg HK4.out stz5.chg (fun x hx h => by
  have h8 := HLOW.out x hx
  have h' : x = zt := h
  omega))
 clear h4 ht5b HK4
 generalize wp = w5 at *
 obtain ⟨pre, hpre⟩ : ∃ x, x = s2.row.1 := ⟨_, rfl⟩
 obtain ⟨s3, hs3'⟩ : ∃ x, x = s2.row.2 := ⟨_, rfl⟩
 have e3 : s3.b.length ≤ s2.b.length := by rw [hs3']; exact RS.row_le _
 have HP := Lib.hid hpre
 have HS3 := Lib.hid hs3'
 clear hpre hs3'
 refine (rReadText_calls H5.out (by have := HL.out; omega)).mono ?_
 rw [← HP.out, ← HS3.out]
 rintro e w6 ⟨rfl, st6, h6⟩
 have ht6 : HB w6 zt 115 (dlW l k [] false) := inferInstance
 have ho6 : HB w6 zo 115 zeroDl := inferInstance
 have HK6 : Hid (KIn w6 k) := Lib.hid (KIn.chg HK5.out st6.chg (fun x hx h => by
  have h8 := HLOW.out x hx
  have h' : x = g := h
  have h9 := st3.chg.size
  omega))
 go_wp2_with (first | ((with_reducible apply wpl_storecell); exact rfl; exact rfl; exact ht6; exact rfl; exact (show 3 < 5 by decide); intro wk _ htr; have ht7 : HB wk zt 115 (dlW l k pre false) := HB.row_eqR htr rfl; clear htr))
 have ho7 : HB wk zo 115 zeroDl := inferInstance
 have stz7 : Step (only zt) w6 wk := inferInstance
 have H7 := Lib.hid (far s3 w6 wk (by omega) stz7 h6.out)
 have st7 : Step (only g) w wk := stepC
 have HK7 : Hid (KIn wk k) := Lib.hid (KIn.chg HK6.out stz7.chg (fun x hx h => by
  have h8 := HLOW.out x hx
  have h' : x = zt := h
  omega))
 clear h6 HK6 HK5
 generalize wk = w7 at *
 obtain ⟨N, hN⟩ : ∃ N, N = s3.num.1 := ⟨_, rfl⟩
 obtain ⟨s4, hs4⟩ : ∃ x, x = s3.num.2 := ⟨_, rfl⟩
 have e4 : s4.b.length ≤ s3.b.length := by rw [hs4]; exact RS.num_le _
 obtain ⟨b, hb⟩ : ∃ b, b = decide (N = 1) := ⟨_, rfl⟩
 have hx : GotD s (l, k.m, pre, b) s4 := ⟨k.l, need, s2, by rw [← HS1.out]; exact HQ.out.1, by
  rw [← HP0.out, ← HP.out, ← HS3.out, ← hN, ← hb, KR.m, HQ.out.2], by rw [hs4, HS3.out]⟩
 have HX := Lib.hid hx
 have HN := Lib.hid hN
 have HS4 := Lib.hid hs4
 have hsx : (RowC.enc (⟨l, k, pre, b⟩ : DeleR)).toArray.size = 5 := rfl
 have hox := enc_one (⟨l, k, pre, b⟩ : DeleR)
 clear hx hN hs4
 refine (rrNum_calls g d s3 _ H7.out (by have := HL.out; omega)).mono ?_
 rw [← HN.out, ← HS4.out]
 rintro e w8 ⟨rfl, h8, c8⟩
 have st8 : Step (only g) w7 w8 := ⟨c8.out⟩
 have ht8 : HB w8 zt 115 (dlW l k pre false) := inferInstance
 have ho8 : HB w8 zo 115 zeroDl := inferInstance
 have hzs8 : w3.heap.size ≤ w8.heap.size := (inferInstance : SzLe w3 w8).out
 have HK8 : Hid (KIn w8 k) := Lib.hid (KIn.chg HK7.out st8.chg (fun x hx h => by
  have h8 := HLOW.out x hx
  have h' : x = g := h
  have h9 := st3.chg.size
  omega))
 clear c8 HK7
 by_cases h1 : N = 1
 focus
  obtain rfl : b = true := by rw [hb, decide_eq_true h1]
  have hF : ((N : Int) == 1) = true := by rw [beq_iff_eq]; omega
  clear hb h1
  go_wp2_with (first | ((with_reducible apply wpl_storecell); exact rfl; exact rfl; exact ht8; exact rfl; exact (show 4 < 5 by decide); intro wk _ htr; have ht9 : HB wk zt 115 (RowC.enc (⟨l, k, pre, true⟩ : DeleR)).toArray := HB.row_eqR htr rfl; clear htr) | ((with_reducible apply wpl_loadrow); exact rfl; exact ht9; infer_instance; exact hsx) | ((with_reducible apply wpl_storerow); exact rfl; exact rfl; infer_instance; infer_instance; (first | (with_reducible assumption) | (with_reducible exact H32.size _) | (with_reducible exact enc_sz _ rfl) | kernel_rfl); (first | (with_reducible assumption) | (with_reducible exact H32.size _) | (with_reducible exact enc_sz _ rfl) | kernel_rfl); (first | (with_reducible exact u8s_one _) | (with_reducible assumption) | (with_reducible exact enc_one _) | kernel_rfl); intro ws _ _))
 rotate_left
 focus
  obtain rfl : b = false := by rw [hb, decide_eq_false h1]
  have hF : ((N : Int) == 1) = false := by rw [beq_eq_false_iff_ne]; omega
  clear hb h1
  go_wp2_with (first | ((with_reducible apply wpl_storecell); exact rfl; exact rfl; exact ht8; exact rfl; exact (show 4 < 5 by decide); intro wk _ htr; have ht9 : HB wk zt 115 (RowC.enc (⟨l, k, pre, false⟩ : DeleR)).toArray := HB.row_eqR htr rfl; clear htr) | ((with_reducible apply wpl_loadrow); exact rfl; exact ht9; infer_instance; exact hsx) | ((with_reducible apply wpl_storerow); exact rfl; exact rfl; infer_instance; infer_instance; (first | (with_reducible assumption) | (with_reducible exact H32.size _) | (with_reducible exact enc_sz _ rfl) | kernel_rfl); (first | (with_reducible assumption) | (with_reducible exact H32.size _) | (with_reducible exact enc_sz _ rfl) | kernel_rfl); (first | (with_reducible exact u8s_one _) | (with_reducible assumption) | (with_reducible exact enc_one _) | kernel_rfl); intro ws _ _))
 rotate_left
 all_goals
  have hcF : Chg (gz2 zt zo) w8 ws := (inferInstance : Ch (gz2 zt zo) w8 ws).out
  refine ret_row rfl rfl (n := 5) hsx rfl ⟨_, s4, rfl, stepC, ?_, HX, ?_⟩
  · exact Lib.hid (h8.out.far hcF (m := w.heap.size) (fun x hx => by rcases hx with h | h <;> omega) hgl (fun h => hdl (ne_of_le (by omega) h)))
  · exact Lib.hid ⟨KIn.chg HK8.out hcF (fun x hx h => by
      have h8 := HLOW.out x hx
      rcases h with h | h
      · omega
      · omega), ⟨fun ad e => by
      have h8 := hkA.out ad e
      have h9 := st3.chg.size
      omega⟩⟩
end Go.Proofs.YtgjnjhhhbkidbaaGreat
