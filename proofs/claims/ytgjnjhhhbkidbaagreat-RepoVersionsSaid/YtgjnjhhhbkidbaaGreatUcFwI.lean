/- FwI -/
import Derived.Test.YtgjnjhhhbkidbaaGreatUcTgN
import Derived.Test.YtgjnjhhhbkidbaaGreatUcWzE
import Derived.Test.YtgjnjhhhbkidbaaGreatUcRoJ
open Go Go.RowKit
namespace Go.Proofs.YtgjnjhhhbkidbaaGreat
theorem run_tgU (l : List UInt8) (w : World) : (Instr.build 42 #[(0, .string (strL l))]).run Tryz.prog w = .ok (.agg (tgV (.string (strL l)) (.int .i64 0) zeroH (.string ⟨#[]⟩) (.int .i64 0) (.string ⟨#[]⟩)).toArray) w := by kernel_rfl
theorem tgV_1 (a b : Value) (h : H32) (x y z v : Value) : (tgV a b h x y z).toArray.setIfInBounds 1 v = (tgV a v h x y z).toArray := by
 rw [sA]
 rfl
set_option maxRecDepth 100000 in
set_option maxHeartbeats 3200000 in
theorem rReadTarget_calls {g d : Nat} {s : RS} {w : World} (hw : RRAt w g d s) (hl : s.b.length ≤ 1000000000) :
    Calls Tryz.prog 50 #[.pointer (some ⟨g, 0, none⟩)] w fun e w' => e = .returned (.agg (RowC.enc (tgTk s).1).toArray) ∧ Step (only g) w w' ∧ Hid (RRAt w' g d (tgTk s).2) := by
 have HW0 := Lib.hid hw
 have HL := Lib.hid hl
 have hgl := hw.lt
 have hdl := hw.dlt
 have hpl := tgTakes.le s
 obtain ⟨s1, hs1⟩ : ∃ x, x = s.row.2 := ⟨_, rfl⟩
 obtain ⟨s2, hs2⟩ : ∃ x, x = s1.num.2 := ⟨_, rfl⟩
 obtain ⟨s3, hs3⟩ : ∃ x, x = s2.hnx := ⟨_, rfl⟩
 obtain ⟨s4, hs4⟩ : ∃ x, x = s3.row.2 := ⟨_, rfl⟩
 obtain ⟨s5, hs5⟩ : ∃ x, x = s4.num.2 := ⟨_, rfl⟩
 have e1 : s1.b.length ≤ s.b.length := by rw [hs1]; exact RS.row_le _
 have e2 : s2.b.length ≤ s1.b.length := by rw [hs2]; exact RS.num_le _
 have e3 : s3.b.length ≤ s2.b.length := by rw [hs3]; exact RS.hnx_le _
 have e4 : s4.b.length ≤ s3.b.length := by rw [hs4]; exact RS.row_le _
 have e5 : s5.b.length ≤ s4.b.length := by rw [hs5]; exact RS.num_le _
 obtain ⟨p, hp⟩ : ∃ p, p = (tgTk s).1 := ⟨_, rfl⟩
 have HE : Hid ((tgTk s).2 = s5.row.2) := Lib.hid (by rw [hs5, hs4, hs3, hs2, hs1]; rfl)
 have HP0 : Hid (s.row.1 = p.l) := Lib.hid (by rw [hp]; rfl)
 have HP1 : Hid (((s1.num.1 : Nat) : Int) = p.size) := Lib.hid (by rw [hp, hs1]; rfl)
 have HP2 : Hid (s2.hsh = p.sum) := Lib.hid (by rw [hp, hs2, hs1]; rfl)
 have HP3 : Hid (s3.row.1 = p.hw) := Lib.hid (by rw [hp, hs3, hs2, hs1]; rfl)
 have HP4 : Hid (((s4.num.1 : Nat) : Int) = p.ctr) := Lib.hid (by rw [hp, hs4, hs3, hs2, hs1]; rfl)
 have HP5 : Hid (s5.row.1 = p.ecu) := Lib.hid (by rw [hp, hs5, hs4, hs3, hs2, hs1]; rfl)
 have HS1 := Lib.hid hs1
 have HS2 := Lib.hid hs2
 have HS3 : Hid (s3 = (s2.raw 32).2) := Lib.hid hs3
 have HS4 := Lib.hid hs4
 have HS5 := Lib.hid hs5
 have kbU := run_tgU p.l
 have hsz : (RowC.enc p).toArray.size = 37 := tgR_len p
 have hon := enc_one p
 have hz0 : zeroTg.size = 37 := by kernel_rfl
 rw [← hp]
 clear hw hl hp hs1 hs2 hs3 hs4 hs5
 go_enter Tryz.func50, Tryz.ntmps50
 go_wp2_with (first | ((with_reducible apply (wpl_alloc (dst := some 2))); intro zo wzo _ _ _))
 have hzo : w.heap.size ≤ zo := Nat.le_of_eq (inferInstance : Born w zo).eq.symm
 have hzol : zo < wzo.heap.size := (inferInstance : HB wzo zo 42 zeroTg).out.lt
 have ozo : OffB (only g) zo := ⟨fun e => by have e' : zo = g := e; omega⟩
 refine (rReadText_calls (HW0.out.chg (stepN (w0 := w)).chg (fun h => h) (fun h => h)) HL.out).mono ?_
 rw [HP0.out, ← HS1.out]
 rintro e w2 ⟨rfl, st2, h2⟩
 have H2 := Lib.hid h2.out
 clear h2
 have hs2 : wzo.heap.size ≤ w2.heap.size := st2.chg.size
 have hwz : w.heap.size ≤ wzo.heap.size := (inferInstance : SzLe w wzo).out
 go_wp2_with (first | ((with_reducible apply wpl_build); exact kbU _) | ((with_reducible apply (wpl_alloc (dst := some 3))); intro zt wzt _ _ _) | ((with_reducible apply wpl_storerow); exact rfl; exact rfl; infer_instance; infer_instance; (first | (with_reducible assumption) | (with_reducible exact H32.size _) | (with_reducible exact enc_sz _ rfl) | kernel_rfl); (first | (with_reducible assumption) | (with_reducible exact H32.size _) | (with_reducible exact enc_sz _ rfl) | kernel_rfl); (first | (with_reducible exact u8s_one _) | (with_reducible assumption) | (with_reducible exact enc_one _) | kernel_rfl); intro ws _ _))
 have hzt2 : w2.heap.size ≤ zt := Nat.le_of_eq (inferInstance : Born w2 zt).eq.symm
 have otr : OffB (only g) zt := ⟨fun e => by have e' : zt = g := e; omega⟩
 have oto : OffB (only zt) zo := ⟨fun e => by have e' : zo = zt := e; omega⟩
 have far : ∀ (x : RS) (w1 w2 : World), x.b.length ≤ s.b.length → Step (only zt) w1 w2 → RRAt w1 g d x → RRAt w2 g d x := fun x w1 w2 hx st h => h.far st.chg (m := w.heap.size) (fun y hy => by have hy' : y = zt := hy; omega) hgl (fun h9 => hdl (ne_of_le hx h9))
 have at_ : Above w (only zt) := ⟨fun k h => by have h' : k = zt := h; omega⟩
 have ht3 : HB ws zt 42 (tgV (.string (strL p.l)) (.int .i64 0) zeroH (.string ⟨#[]⟩) (.int .i64 0) (.string ⟨#[]⟩)).toArray := inferInstance
 have ho3 : HB ws zo 42 zeroTg := inferInstance
 have H3 := Lib.hid (far s1 wzt ws e1 inferInstance (H2.out.chg (stepN (w0 := w2) (w := wzt)).chg (fun h => h) (fun h => h)))
 have st3 : Step (only g) w ws := stepC
 clear H2
 generalize ws = w3 at *
 refine (rrNum_calls g d s1 _ H3.out (by have := HL.out; omega)).mono ?_
 rw [HP1.out, ← HS2.out]
 rintro e w4 ⟨rfl, h4, c4⟩
 have st4 : Step (only g) w3 w4 := ⟨c4.out⟩
 have ht4 : HB w4 zt 42 (tgV (.string (strL p.l)) (.int .i64 0) zeroH (.string ⟨#[]⟩) (.int .i64 0) (.string ⟨#[]⟩)).toArray := inferInstance
 have ho4 : HB w4 zo 42 zeroTg := inferInstance
 clear c4
 go_wp2_with (first | ((with_reducible apply wpl_storecell); exact rfl; exact rfl; exact ht4; exact rfl; (rw [tgV_len]; decide); intro wk _ htr; have ht5 : HB wk zt 42 (tgV (.string (strL p.l)) (.int .i64 p.size) zeroH (.string ⟨#[]⟩) (.int .i64 0) (.string ⟨#[]⟩)).toArray := HB.row_eqR htr (tgV_1 _ _ _ _ _ _ _); clear htr))
 have ho5 : HB wk zo 42 zeroTg := inferInstance
 have H5 := Lib.hid (far s2 w4 wk (by omega) inferInstance h4.out)
 have st5 : Step (only g) w wk := stepC
 clear h4
 generalize wk = w5 at *
 refine (rHash_calls H5.out (by have := HL.out; omega)).mono ?_
 rw [HP2.out, ← HS3.out]
 rintro e w6 ⟨rfl, st6, h6⟩
 have ht6 : HB w6 zt 42 (tgV (.string (strL p.l)) (.int .i64 p.size) zeroH (.string ⟨#[]⟩) (.int .i64 0) (.string ⟨#[]⟩)).toArray := inferInstance
 have ho6 : HB w6 zo 42 zeroTg := inferInstance
 have hsz6 : (tgV (.string (strL p.l)) (.int .i64 p.size) zeroH (.string ⟨#[]⟩) (.int .i64 0) (.string ⟨#[]⟩)).toArray.size = 37 := tgV_len _ _ _ _ _ _
 have hput : (tgV (.string (strL p.l)) (.int .i64 p.size) zeroH (.string ⟨#[]⟩) (.int .i64 0) (.string ⟨#[]⟩)).toArray.toList.take 2 ++ (u8s p.sum.l).toList ++ (tgV (.string (strL p.l)) (.int .i64 p.size) zeroH (.string ⟨#[]⟩) (.int .i64 0) (.string ⟨#[]⟩)).toArray.toList.drop (2 + 32) = (tgV (.string (strL p.l)) (.int .i64 p.size) p.sum (.string ⟨#[]⟩) (.int .i64 0) (.string ⟨#[]⟩)).toArray.toList := by
  show [Value.string (strL p.l), .int .i64 p.size] ++ (u8s p.sum.l).toList ++ [.string ⟨#[]⟩, .int .i64 0, .string ⟨#[]⟩] = tgV (.string (strL p.l)) (.int .i64 p.size) p.sum (.string ⟨#[]⟩) (.int .i64 0) (.string ⟨#[]⟩)
  simp [tgV, u8s]
 have HPUT := Lib.hid hput
 clear hput
 go_wp2_with (first | ((with_reducible apply wpl_storepart); exact rfl; exact rfl; exact ht6; infer_instance; exact H32.size _; (decide); (rw [hsz6]; decide); exact u8s_one _; exact HPUT.out; intro wp _ ht7b))
 have ht7 : HB wp zt 42 (tgV (.string (strL p.l)) (.int .i64 p.size) p.sum (.string ⟨#[]⟩) (.int .i64 0) (.string ⟨#[]⟩)).toArray := ht7b
 have ho7 : HB wp zo 42 zeroTg := inferInstance
 have H7 := Lib.hid (far s3 w6 wp (by omega) inferInstance h6.out)
 have st7 : Step (only g) w wp := stepC
 clear h6 ht7b
 generalize wp = w7 at *
 refine (rReadText_calls H7.out (by have := HL.out; omega)).mono ?_
 rw [HP3.out, ← HS4.out]
 rintro e w8 ⟨rfl, st8, h8⟩
 have ht8 : HB w8 zt 42 (tgV (.string (strL p.l)) (.int .i64 p.size) p.sum (.string ⟨#[]⟩) (.int .i64 0) (.string ⟨#[]⟩)).toArray := inferInstance
 have ho8 : HB w8 zo 42 zeroTg := inferInstance
 go_wp2_with (first | ((with_reducible apply wpl_storecell); exact rfl; exact rfl; exact ht8; exact rfl; (rw [tgV_len]; decide); intro wk _ htr; have ht9 : HB wk zt 42 (tgV (.string (strL p.l)) (.int .i64 p.size) p.sum (.string (strL p.hw)) (.int .i64 0) (.string ⟨#[]⟩)).toArray := HB.row_eqR htr (tgV_34 _ _ _ _ _ _ _); clear htr))
 have ho9 : HB wk zo 42 zeroTg := inferInstance
 have H9 := Lib.hid (far s4 w8 wk (by omega) inferInstance h8.out)
 have st9 : Step (only g) w wk := stepC
 clear h8
 generalize wk = w9 at *
 refine (rrNum_calls g d s4 _ H9.out (by have := HL.out; omega)).mono ?_
 rw [HP4.out, ← HS5.out]
 rintro e w10 ⟨rfl, h10, c10⟩
 have st10 : Step (only g) w9 w10 := ⟨c10.out⟩
 have ht10 : HB w10 zt 42 (tgV (.string (strL p.l)) (.int .i64 p.size) p.sum (.string (strL p.hw)) (.int .i64 0) (.string ⟨#[]⟩)).toArray := inferInstance
 have ho10 : HB w10 zo 42 zeroTg := inferInstance
 clear c10
 go_wp2_with (first | ((with_reducible apply wpl_storecell); exact rfl; exact rfl; exact ht10; exact rfl; (rw [tgV_len]; decide); intro wk _ htr; have ht11 : HB wk zt 42 (tgV (.string (strL p.l)) (.int .i64 p.size) p.sum (.string (strL p.hw)) (.int .i64 p.ctr) (.string ⟨#[]⟩)).toArray := HB.row_eqR htr (tgV_35 _ _ _ _ _ _ _); clear htr))
 have ho11 : HB wk zo 42 zeroTg := inferInstance
 have H11 := Lib.hid (far s5 w10 wk (by omega) inferInstance h10.out)
 have st11 : Step (only g) w wk := stepC
 clear h10
 generalize wk = w11 at *
 refine (rReadText_calls H11.out (by have := HL.out; omega)).mono ?_
 rw [HP5.out, ← HE.out]
 rintro e w12 ⟨rfl, st12, h12⟩
 have ht12 : HB w12 zt 42 (tgV (.string (strL p.l)) (.int .i64 p.size) p.sum (.string (strL p.hw)) (.int .i64 p.ctr) (.string ⟨#[]⟩)).toArray := inferInstance
 have ho12 : HB w12 zo 42 zeroTg := inferInstance
 have hE : Hid ((tgTk s).2.b ≠ [] → d < w.heap.size) := Lib.hid (fun h => hdl (by
  intro h0
  rw [h0] at hpl
  exact h (List.eq_nil_of_length_eq_zero (by simpa using hpl))))
 go_wp2_with (first | ((with_reducible apply wpl_storecell); exact rfl; exact rfl; exact ht12; exact rfl; (rw [tgV_len]; decide); intro wk _ htr; have ht13 : HB wk zt 42 (RowC.enc p).toArray := HB.row_eqR htr (tgV_36 _ _ _ _ _ _ _); clear htr) | ((with_reducible apply wpl_loadrow); exact rfl; exact ht13; infer_instance; exact hsz) | ((with_reducible apply wpl_storerow); exact rfl; exact rfl; infer_instance; infer_instance; (first | (with_reducible assumption) | (with_reducible exact H32.size _) | (with_reducible exact enc_sz _ rfl) | kernel_rfl); (first | (with_reducible assumption) | (with_reducible exact H32.size _) | (with_reducible exact enc_sz _ rfl) | kernel_rfl); (first | (with_reducible exact u8s_one _) | (with_reducible assumption) | (with_reducible exact enc_one _) | kernel_rfl); intro ws _ _))
 have hcF : Chg (gz2 zt zo) w12 ws := (inferInstance : Ch (gz2 zt zo) w12 ws).out
 refine ret_row rfl rfl (n := 37) hsz rfl ⟨rfl, stepC, ?_⟩
 exact Lib.hid (h12.out.far hcF (m := w.heap.size) (fun x hx => by rcases hx with h | h <;> omega) hgl hE.out)
end Go.Proofs.YtgjnjhhhbkidbaaGreat
