/- RlJ, RlK -/
import Derived.Test.YtgjnjhhhbkidbaaGreatUcRlI
import Derived.Test.YtgjnjhhhbkidbaaGreatUcRsD
import Derived.Test.YtgjnjhhhbkidbaaGreatUcRlG
import Derived.Test.YtgjnjhhhbkidbaaGreatUcRsI
section
open Go Go.RowKit
namespace Go.Proofs.YtgjnjhhhbkidbaaGreat
abbrev EvM := List UInt8 × List MkV
def gtm (L : List EvM) (i : Nat) : EvM := L.getD i ([], [])
/-- envelopes in a row, their rows in these blocks -/
def EvL (O : Nat → Prop) (w : World) (l : List EvC) (L : List EvM) : Prop := l.length = L.length ∧ ∀ i, i < l.length → EvS O w (gtm L i).1 (gtm L i).2 (gt l i).v0 (gt l i).v1
theorem EvL.chg {w w' : World} {O S : Nat → Prop} {l : List EvC} {L : List EvM} (h : EvL O w l L) (c : Chg S w w') (hs : ∀ y, O y → ¬ S y) : EvL O w' l L := ⟨h.1, fun i hi => (h.2 i hi).chg c hs⟩
theorem EvL.mono {w : World} {O O' : Nat → Prop} {l : List EvC} {L : List EvM} (h : EvL O w l L) (ho : ∀ y, O y → O' y) : EvL O' w l L := ⟨h.1, fun i hi => (h.2 i hi).mono ho⟩
theorem gtC_app_lt (l : List EvC) (x : EvC) (i : Nat) (h : i < l.length) : gt (l ++ [x]) i = gt l i := by
 unfold gt
 rw [List.getD_eq_getElem?_getD, List.getD_eq_getElem?_getD, List.getElem?_append_left h]
theorem gtC_app_eq (l : List EvC) (x : EvC) (k : Nat) (h : l.length = k) : gt (l ++ [x]) k = x := by
 subst h
 unfold gt
 rw [List.getD_eq_getElem?_getD, List.getElem?_append_right (Nat.le_refl _), Nat.sub_self]
 rfl
/-- a row of clones -/
def ClN (w w' : World) (L : List EvM) (A : Option Addr) (n : Nat) : Prop := ∃ l : List EvC, HR w' A (cellsOf l) ∧ l.length = n ∧ Hid ((∀ ad, A = some ad → w.heap.size ≤ ad.block ∧ ad.block < w'.heap.size) ∧ EvL (fun y => w.heap.size ≤ y ∧ y < w'.heap.size) w' l L)
theorem ClN.chg {w w1 w2 : World} {L : List EvM} {A : Option Addr} {n : Nat} {S : Nat → Prop} (h : ClN w w1 L A n) (c : Chg S w1 w2) (hs : ∀ y, w.heap.size ≤ y → y < w1.heap.size → ¬ S y) : ClN w w2 L A n := by
 obtain ⟨l, h1, h2, h3⟩ := h
 have hz := c.size
 exact ⟨l, ⟨h1.out.chg c (fun _ ad e => hs _ (h3.out.1 ad e).1 (h3.out.1 ad e).2)⟩, h2, Lib.hid ⟨fun ad e => ⟨(h3.out.1 ad e).1, Nat.lt_of_lt_of_le (h3.out.1 ad e).2 hz⟩, (h3.out.2.chg c (fun y h => hs y h.1 h.2)).mono (fun y h => ⟨h.1, Nat.lt_of_lt_of_le h.2 hz⟩)⟩⟩
theorem ClN.lo {w0 w w' : World} {L : List EvM} {A : Option Addr} {n : Nat} (h : ClN w w' L A n) (hz : w0.heap.size ≤ w.heap.size) : ClN w0 w' L A n := by
 obtain ⟨l, h1, h2, h3⟩ := h
 exact ⟨l, h1, h2, Lib.hid ⟨fun ad e => ⟨Nat.le_trans hz (h3.out.1 ad e).1, (h3.out.1 ad e).2⟩, h3.out.2.mono (fun y h => ⟨Nat.le_trans hz h.1, h.2⟩)⟩⟩
set_option maxRecDepth 100000 in
set_option maxHeartbeats 6400000 in
theorem clonesN_calls {A : Option Addr} {n c : Nat} (l : List EvC) (L : List EvM) {w : World} (h : Rd w A (cellsOf l)) (hl : l.length = n) (hn : n ≤ 1000000) (hL : L.length = n) (hx : ∀ i, i < n → EvV w (gtm L i).1 (gtm L i).2 (gt l i).v0 (gt l i).v1) :
    Calls Tryz.prog 32 #[.slice A n c] w fun e w' => ∃ A' c', e = .returned (.slice A' n c') ∧ Step nowhere w w' ∧ ClN w w' L A' n := by
 have HX := Lib.hid hx
 have HR0 := Lib.hid h
 have HLL := Lib.hid hL
 have hn9 : n ≤ 9223372036854775807 := by omega
 clear hx h hL
 go_enter Tryz.func32, Tryz.ntmps32
 go_wp2_with fail
 go_loopw [3, 8] (fun lv iv wr => ∃ (k : Nat) (A' : Option Addr) (c' : Nat) (l' : List EvC), k ≤ n ∧ iv = .int .i64 (k : Int) ∧ lv = .slice A' k c' ∧ l'.length = k ∧ Nw w wr ∧ HO wr 32 2 A' k c' (cellsOf l') ∧ NewA w A' ∧ Hid (∀ i, i < k → EvS (fun y => w.heap.size ≤ y ∧ y < wr.heap.size ∧ ¬ rowOf A' y) wr (gtm L i).1 (gtm L i).2 (gt l' i).v0 (gt l' i).v1)) (fun _ iv _ => n - (intOf iv).toNat)
 case atStart => exact ⟨0, none, 0, [], Nat.zero_le _, rfl, rfl, rfl, inferInstance, ⟨Own.nil _ _ _⟩, ⟨fun ad e => by cases e⟩, Lib.hid (fun i h => absurd h (Nat.not_lt_zero _))⟩
 case round =>
  obtain ⟨k, A', c', l', hk, rfl, rfl, hl', nr, ho, hnA, HE⟩ := hrel
  have hrw : HR wr A (cellsOf l) := ⟨HR0.out.chg nr.out (fun _ _ _ h => h)⟩
  by_cases hlt : k < n
  · have hltI : (k : Int) < n := by omega
    have hkl : k < l.length := by omega
    have hszx : (RowC.enc (gt l k)).toArray.size = 2 := rfl
    have honx := enc_one (gt l k)
    go_wp2_with (first | ((with_reducible apply (wpl_alloc (dst := some 5))); intro z5 wz5 _ _ _) | ((with_reducible apply wpl_loadrow); exact rfl; infer_instance; infer_instance; (first | (with_reducible assumption) | (with_reducible exact H32.size _) | (with_reducible exact enc_sz _ rfl) | kernel_rfl)) | ((with_reducible apply wpl_storerow); exact rfl; exact rfl; infer_instance; infer_instance; (first | (with_reducible assumption) | (with_reducible exact H32.size _) | (with_reducible exact enc_sz _ rfl) | kernel_rfl); (first | (with_reducible assumption) | (with_reducible exact H32.size _) | (with_reducible exact enc_sz _ rfl) | kernel_rfl); (first | (with_reducible exact u8s_one _) | (with_reducible assumption) | (with_reducible exact enc_one _) | kernel_rfl); intro ws _ _) | ((with_reducible apply (wpl_indexE (α := EvC) (t := 28))); exact rfl; exact rfl; infer_instance; infer_instance; (first | (with_reducible assumption) | omega | (focus (simp; done)) | (focus (simp; omega; done)) | decide); exact rfl; (decide); (first | (with_reducible assumption) | omega | (focus (simp; done)) | (focus (simp; omega; done)) | decide)) | ((with_reducible apply (wpl_loadE (α := EvC) (t := 32))); infer_instance; exact rfl; infer_instance; exact rfl; (decide); (first | (with_reducible assumption) | omega | (focus (simp; done)) | (focus (simp; omega; done)) | decide)))
    have hcw : Chg nowhere w ws := nr.out.trans (stepN (w0 := wr) (w := ws)).chg (fun _ _ h => h)
    have hxw := (HX.out k hlt).nw hcw
    have hsr : wr.heap.size ≤ ws.heap.size := (stepN (w0 := wr) (w := ws)).chg.size
    have how : HO ws 32 2 A' k c' (cellsOf l') := inferInstance
    have hEw : Hid (∀ i, i < k → EvS (fun y => w.heap.size ≤ y ∧ y < wr.heap.size ∧ ¬ rowOf A' y) ws (gtm L i).1 (gtm L i).2 (gt l' i).v0 (gt l' i).v1) := Lib.hid (fun i hi => (HE.out i hi).chg (stepN (w0 := wr) (w := ws)).chg (fun _ _ h => h))
    have hAl : ∀ ad, A' = some ad → ad.block < wr.heap.size := fun ad e => ho.out.lt e
    refine (cloneX_calls hxw).mono ?_
    rintro e w5 ⟨u0, u1, rfl, st5, hu⟩
    have ho1 := hu.out.v.one
    have nw5 : Nw w w5 := ⟨hcw.trans st5.chg (fun _ _ h => h)⟩
    have kb := run_ev1 ⟨u0, u1, ho1.1, ho1.2⟩
    have ho5 : HO w5 32 2 A' k c' (cellsOf l') := inferInstance
    have hs5 := st5.chg.size
    have hws := hcw.size
    clear hcw hxw how ho HE hrw
    go_wp2_with (first | ((with_reducible apply (stop_dst (dst := some 15))); (try simp only [Act.put, sA, sB, sC]); ((with_reducible apply (wpl_bslice (dst := some 15))); exact kb _; intro zb wb _ _ _)) | ((with_reducible apply (wpl_appendR (α := EvC))); exact rfl; exact rfl; infer_instance; infer_instance; exact HB.cells inferInstance; exact rfl; exact rfl; omega; (decide); (decide); intro A2 c3 wa st2 ho2 hG hcap2))
    have h5a : Chg (rowOf A') w5 wa := (inferInstance : Ch (rowOf A') w5 wa).out
    have hsa := h5a.size
    have hG2 : ∀ ad, A2 = some ad → A2 = A' ∨ w5.heap.size ≤ ad.block := fun ad e => by
     rcases hG.out with h9 | h9
     · exact .inl h9
     · right
       rw [h9] at e
       injection e with e
       rw [← e]
       exact (inferInstance : SzLe w5 _).out
    have nwa : Nw w wa := ⟨nw5.out.trans h5a (fun y hy ⟨ad, e, h⟩ => by have := hnA.out ad e; omega)⟩
    refine ⟨⟨k + 1, A2, c3, l' ++ [⟨u0, u1, ho1.1, ho1.2⟩], by omega, by go_num, rfl, by rw [List.length_append, hl']; rfl, nwa, ho2, ⟨fun ad e => ?_⟩, Lib.hid (fun i hi => ?_)⟩, by simp [intOf]; omega⟩
    · rcases hG2 ad e with h9 | h9
      · rw [h9] at e
        exact hnA.out ad e
      · omega
    · by_cases hik : i = k
      · subst hik
        rw [gtC_app_eq l' _ i hl']
        refine (((hu.out.s (O := fun y => ws.heap.size ≤ y ∧ y < w5.heap.size) (fun y h1 h2 => ⟨h1, h2⟩)).chg h5a (fun y h1 ⟨ad, e, h⟩ => by have := hAl ad e; omega)).mono (fun y h1 => ⟨by omega, by omega, fun ⟨ad, e, h⟩ => ?_⟩))
        rcases hG2 ad e with h9 | h9
        · rw [h9] at e
          have := hAl ad e
          omega
        · omega
      · rw [gtC_app_lt l' _ i (by omega)]
        refine ((((hEw.out i (by omega)).chg st5.chg (fun _ _ h => h)).chg h5a (fun y h1 h => h1.2.2 h)).mono (fun y h1 => ⟨h1.1, by omega, fun ⟨ad, e, h⟩ => ?_⟩))
        rcases hG2 ad e with h9 | h9
        · rw [h9] at e
          exact h1.2.2 ⟨ad, e, h⟩
        · omega
  · have hltI : ¬ (k : Int) < n := by omega
    obtain rfl : k = n := by omega
    go_wp2_with fail
    go_ret
    exact ⟨A', ⟨c', rfl⟩, stepN, l', ⟨ho.out.rd⟩, hl', Lib.hid ⟨fun ad e => ⟨hnA.out ad e, ho.out.lt e⟩, by rw [hl', HLL.out], fun i hi => (HE.out i (by omega)).mono (fun y h => ⟨h.1, h.2.1⟩)⟩⟩
def BunG (w w' : World) (LX LG : List EvM) (mt ms : EvM) (a b c d : Value) (A1 A2 : Option Addr) (n1 n2 : Nat) : Prop := Hid (EvX w' w.heap.size w'.heap.size mt.1 mt.2 a b ∧ EvX w' w.heap.size w'.heap.size ms.1 ms.2 c d ∧ ClN w w' LX A1 n1 ∧ ClN w w' LG A2 n2)
set_option maxRecDepth 100000 in
set_option maxHeartbeats 3200000 in
theorem bundleG_calls {sd f : H32} {p0 p1 x : Value} {g v : Int} {t0 t1 s0 s1 lg : Value} {mt ms : EvM} {X G : Option Addr} {xn xc gn gc : Nat} (xl gl : List EvC) (LX LG : List EvM) {zr : Nat} {w : World} [hb : HB w zr 73 (rpL sd p0 p1 f g v (x :: [.slice X xn xc, t0, t1, s0, s1, .slice G gn gc, lg])).toArray] (ht : EvV w mt.1 mt.2 t0 t1) (hs : EvV w ms.1 ms.2 s0 s1) (hX : Rd w X (cellsOf xl)) (hG : Rd w G (cellsOf gl)) (hxl : xl.length = xn) (hgl : gl.length = gn) (hxn : xn ≤ 1000000) (hgn : gn ≤ 1000000) (hXL : LX.length = xn) (hGL : LG.length = gn) (hxv : ∀ i, i < xn → EvV w (gtm LX i).1 (gtm LX i).2 (gt xl i).v0 (gt xl i).v1) (hgv : ∀ i, i < gn → EvV w (gtm LG i).1 (gtm LG i).2 (gt gl i).v0 (gt gl i).v1) :
    Calls Tryz.prog 9 #[.pointer (some ⟨zr, 0, none⟩)] w fun e w' => ∃ a b c d A1 c1 A2 c2, e = .returned (.agg #[.slice A1 xn c1, a, b, c, d, .slice A2 gn c2]) ∧ Step nowhere w w' ∧ BunG w w' LX LG mt ms a b c d A1 A2 xn gn := by
 have HT := Lib.hid ht
 have HS := Lib.hid hs
 have HXR := Lib.hid hX
 have HGR := Lib.hid hG
 have HXV := Lib.hid hxv
 have HGV := Lib.hid hgv
 have hc69 : nth (rpL sd p0 p1 f g v (x :: [.slice X xn xc, t0, t1, s0, s1, .slice G gn gc, lg])).toArray.toList 69 = some (.slice X xn xc) := by
  rw [← nth_get]
  exact rp_get68 sd p0 p1 f g v _ 1
 have hc74 : nth (rpL sd p0 p1 f g v (x :: [.slice X xn xc, t0, t1, s0, s1, .slice G gn gc, lg])).toArray.toList 74 = some (.slice G gn gc) := by
  rw [← nth_get]
  exact rp_get68 sd p0 p1 f g v _ 6
 have hc70 : ((rpL sd p0 p1 f g v (x :: [.slice X xn xc, t0, t1, s0, s1, .slice G gn gc, lg])).toArray.toList.drop 70).take 2 = [t0, t1] := by
  rw [show 70 = 68 + 2 from rfl, rp_drop68]
  rfl
 have hc72 : ((rpL sd p0 p1 f g v (x :: [.slice X xn xc, t0, t1, s0, s1, .slice G gn gc, lg])).toArray.toList.drop 72).take 2 = [s0, s1] := by
  rw [show 72 = 68 + 4 from rfl, rp_drop68]
  rfl
 clear ht hs hX hG hxv hgv
 go_enter Tryz.func9, Tryz.ntmps9
 go_wp2_with (first | ((with_reducible apply (wpl_alloc (dst := some 2))); intro zo wzo _ _ _))
 have hzo : w.heap.size ≤ zo := Nat.le_of_eq (inferInstance : Born w zo).eq.symm
 have hzr := hb.out.lt
 have hOo : HB wzo zo 34 #[.slice none 0 0, .slice none 0 0, .slice none 0 0, .slice none 0 0, .slice none 0 0, .slice none 0 0] := inferInstance
 have oz : OffB (only zo) zr := ⟨fun e => by have e' : zr = zo := e; omega⟩
 have nwo : Nw w wzo := ⟨(stepN (w0 := w) (w := wzo)).chg⟩
 refine wp_region_N ((only zo)) (by kernel_rfl) (fun wd _ _ => ?_)
 refine' tk 0 _ rfl (by kernel_rfl) (by kernel_rfl) (by kernel_rfl) (fun _ _ _ h => h) (yo (by rfl) fun w' _ => ?_) inferInstance ?_
 rotate_left
 · (go_simp; try with_reducible rfl)
 try simp only [Act.put, sA, sB, sC]
 refine' tk 1 _ rfl (by kernel_rfl) (by kernel_rfl) (by kernel_rfl) (fun _ _ _ h => h) (yo (by rfl) fun w' _ => ?_) inferInstance ?_
 rotate_left
 · (go_simp; try with_reducible rfl)
 try simp only [Act.put, sA, sB, sC]
 refine' tk 2 _ rfl (by kernel_rfl) (by kernel_rfl) (by kernel_rfl) (fun _ _ _ h => h) (yo (by rfl) fun w' _ => ?_) inferInstance ?_
 rotate_left
 · (go_simp; try with_reducible rfl)
 try simp only [Act.put, sA, sB, sC]
 refine' tk 3 _ rfl (by kernel_rfl) (by kernel_rfl) (by kernel_rfl) (fun _ _ _ h => h) (yo (by rfl) fun w' _ => ?_) inferInstance ?_
 rotate_left
 · (go_simp; try with_reducible rfl)
 try simp only [Act.put, sA, sB, sC]
 refine' tk 4 _ rfl (by kernel_rfl) (by kernel_rfl) (by kernel_rfl) (fun _ _ _ h => h) (yo (by rfl) fun w' _ => ?_) inferInstance ?_
 rotate_left
 · ((apply (ev_loadcellN (k := 69))); exact rfl; infer_instance; infer_instance; exact hc69)
 try simp only [Act.put, sA, sB, sC]
 refine' tk 6 _ rfl (by kernel_rfl) (by kernel_rfl) (by kernel_rfl) (fun _ _ _ h => h) (yo (by rfl) fun w' _ => ?_) inferInstance ?_
 rotate_left
 · (go_simp; try with_reducible rfl)
 try simp only [Act.put, sA, sB, sC]
 refine' tk 7 _ rfl (by kernel_rfl) (by kernel_rfl) (by kernel_rfl) (fun _ _ _ h => h) (yo (by rfl) fun w' _ => ?_) inferInstance ?_
 rotate_left
 · (go_simp; try with_reducible rfl)
 try simp only [Act.put, sA, sB, sC]
 refine' tk 8 _ rfl (by kernel_rfl) (by kernel_rfl) (by kernel_rfl) (fun _ _ _ h => h) (yo (by rfl) fun w' _ => ?_) inferInstance ?_
 rotate_left
 · (go_simp; try with_reducible rfl)
 try simp only [Act.put, sA, sB, sC]
 refine' tk 9 _ rfl (by kernel_rfl) (by kernel_rfl) (by kernel_rfl) (fun _ _ _ h => h) (yo (by rfl) fun w' _ => ?_) inferInstance ?_
 rotate_left
 · (go_simp; try with_reducible rfl)
 try simp only [Act.put, sA, sB, sC]
 refine' tk 10 _ rfl (by kernel_rfl) (by kernel_rfl) (by kernel_rfl) (fun _ _ _ h => h) (yo (by rfl) fun w' _ => ?_) inferInstance ?_
 rotate_left
 · ((apply (ev_loadpart (k := 70) (n := 2))); exact rfl; infer_instance; infer_instance; (decide); exact hc70; exact rfl)
 try simp only [Act.put, sA, sB, sC]
 refine' tk 12 _ rfl (by kernel_rfl) (by kernel_rfl) (by kernel_rfl) (fun _ _ _ h => h) (yo (by rfl) fun w' _ => ?_) inferInstance ?_
 rotate_left
 · (go_simp; try with_reducible rfl)
 try simp only [Act.put, sA, sB, sC]
 refine' tk 13 _ rfl (by kernel_rfl) (by kernel_rfl) (by kernel_rfl) (fun _ _ _ h => h) (yo (by rfl) fun w' _ => ?_) inferInstance ?_
 rotate_left
 · (go_simp; try with_reducible rfl)
 try simp only [Act.put, sA, sB, sC]
 refine' tk 14 _ rfl (by kernel_rfl) (by kernel_rfl) (by kernel_rfl) (fun _ _ _ h => h) (yo (by rfl) fun w' _ => ?_) inferInstance ?_
 rotate_left
 · (go_simp; try with_reducible rfl)
 try simp only [Act.put, sA, sB, sC]
 refine' tk 15 _ rfl (by kernel_rfl) (by kernel_rfl) (by kernel_rfl) (fun _ _ _ h => h) (yo (by rfl) fun w' _ => ?_) inferInstance ?_
 rotate_left
 · (go_simp; try with_reducible rfl)
 try simp only [Act.put, sA, sB, sC]
 refine' tk 16 _ rfl (by kernel_rfl) (by kernel_rfl) (by kernel_rfl) (fun _ _ _ h => h) (yo (by rfl) fun w' _ => ?_) inferInstance ?_
 rotate_left
 · ((apply (ev_loadpart (k := 72) (n := 2))); exact rfl; infer_instance; infer_instance; (decide); exact hc72; exact rfl)
 try simp only [Act.put, sA, sB, sC]
 refine' tk 18 _ rfl (by kernel_rfl) (by kernel_rfl) (by kernel_rfl) (fun _ _ _ h => h) (yo (by rfl) fun w' _ => ?_) inferInstance ?_
 rotate_left
 · (go_simp; try with_reducible rfl)
 try simp only [Act.put, sA, sB, sC]
 refine' tk 19 _ rfl (by kernel_rfl) (by kernel_rfl) (by kernel_rfl) (fun _ _ _ h => h) (yo (by rfl) fun w' _ => ?_) inferInstance ?_
 rotate_left
 · (go_simp; try with_reducible rfl)
 try simp only [Act.put, sA, sB, sC]
 refine' tk 20 _ rfl (by kernel_rfl) (by kernel_rfl) (by kernel_rfl) (fun _ _ _ h => h) (yo (by rfl) fun w' _ => ?_) inferInstance ?_
 rotate_left
 · (go_simp; try with_reducible rfl)
 try simp only [Act.put, sA, sB, sC]
 refine' tk 21 _ rfl (by kernel_rfl) (by kernel_rfl) (by kernel_rfl) (fun _ _ _ h => h) (yo (by rfl) fun w' _ => ?_) inferInstance ?_
 rotate_left
 · (go_simp; try with_reducible rfl)
 try simp only [Act.put, sA, sB, sC]
 refine' tk 22 _ rfl (by kernel_rfl) (by kernel_rfl) (by kernel_rfl) (fun _ _ _ h => h) (yo (by rfl) fun w' _ => ?_) inferInstance ?_
 rotate_left
 · ((apply (ev_loadcellN (k := 74))); exact rfl; infer_instance; infer_instance; exact hc74)
 try simp only [Act.put, sA, sB, sC]
 refine goH (i := 5) (by kernel_rfl) rfl (fun K_ hK_ => ?_)
 go_simp
 refine (clonesN_calls xl LX (HXR.out.chg (nwo.out.trans (stepN (w0 := wzo)).chg (fun _ _ h => h)) (fun _ _ _ h => h)) hxl hxn hXL (fun i hi => (HXV.out i hi).nw (nwo.out.trans (stepN (w0 := wzo)).chg (fun _ _ h => h)))).mono ?_
 rintro e w5 ⟨A5, c5, rfl, st5, hc5⟩
 have HC5 := Lib.hid hc5
 clear hc5
 refine hK_.out _ _ inferInstance (fun _ => ?_)
 clear hK_ K_
 try simp only [Act.put, sA, sB, sC]
 refine goH (i := 11) (by kernel_rfl) rfl (fun K_ hK_ => ?_)
 go_simp
 refine (cloneX_calls (HT.out.nw (nwo.out.trans (stepN (w0 := wzo)).chg (fun _ _ h => h)))).mono ?_
 rintro e w6 ⟨a, b, rfl, st6, hab⟩
 refine hK_.out _ _ inferInstance (fun _ => ?_)
 clear hK_ K_
 try simp only [Act.put, sA, sB, sC]
 refine goH (i := 17) (by kernel_rfl) rfl (fun K_ hK_ => ?_)
 go_simp
 refine (cloneX_calls (HS.out.nw (nwo.out.trans (stepN (w0 := wzo)).chg (fun _ _ h => h)))).mono ?_
 rintro e w7 ⟨c, d, rfl, st7, hcd⟩
 refine hK_.out _ _ inferInstance (fun _ => ?_)
 clear hK_ K_
 try simp only [Act.put, sA, sB, sC]
 refine goH (i := 23) (by kernel_rfl) rfl (fun K_ hK_ => ?_)
 go_simp
 refine (clonesN_calls gl LG (HGR.out.chg (nwo.out.trans (stepN (w0 := wzo)).chg (fun _ _ h => h)) (fun _ _ _ h => h)) hgl hgn hGL (fun i hi => (HGV.out i hi).nw (nwo.out.trans (stepN (w0 := wzo)).chg (fun _ _ h => h)))).mono ?_
 rintro e w8 ⟨A8, c8, rfl, st8, hc8⟩
 have HC8 := Lib.hid hc8
 clear hc8
 have hone : Hid ((#[.slice A5 xn c5, a, b, c, d, .slice A8 gn c8] : Array Value).all (·.oneCell') = true) := Lib.hid (six_one _ _ _ _ _ _ rfl hab.out.v.one.1 hab.out.v.one.2 hcd.out.v.one.1 hcd.out.v.one.2 rfl)
 refine hK_.out _ _ inferInstance (fun _ => ?_)
 clear hK_ K_
 try simp only [Act.put, sA, sB, sC]
 refine' tk 24 _ rfl (by kernel_rfl) (by kernel_rfl) (by kernel_rfl) (fun _ _ _ h => h) (yo (by rfl) fun w' _ => ?_) inferInstance ?_
 rotate_left
 · (go_simp; try with_reducible rfl)
 try simp only [Act.put, sA, sB, sC]
 refine goH (i := 25) (by kernel_rfl) rfl (fun K_ hK_ => ?_)
 rw [if_pos (by kernel_rfl)]
 refine wpr_of_list ?_
 (first | ((with_reducible apply wpl_build); exact run_bun _ _ _ _ _ _ _ _ _ _ _ _) | ((with_reducible apply wpl_storerow); exact rfl; exact rfl; infer_instance; infer_instance; exact rfl; exact rfl; exact hone.out; intro wz stz hz) | ((with_reducible apply wpl_storerow); exact rfl; exact rfl; infer_instance; infer_instance; (first | (with_reducible assumption) | (with_reducible exact H32.size _) | (with_reducible exact enc_sz _ rfl) | kernel_rfl); (first | (with_reducible assumption) | (with_reducible exact H32.size _) | (with_reducible exact enc_sz _ rfl) | kernel_rfl); (first | (with_reducible exact u8s_one _) | (with_reducible assumption) | (with_reducible exact enc_one _) | kernel_rfl); intro ws _ _) | ((with_reducible apply wpl_storecell); exact rfl; exact rfl; infer_instance; exact rfl; (first | (with_reducible assumption) | omega | (focus (simp; done)) | (focus (simp; omega; done)) | decide); intro ws _ _) | ((with_reducible apply (wpl_storehash (t := 23))); exact rfl; exact rfl; infer_instance; infer_instance; (first | (with_reducible assumption) | omega | (focus (simp; done)) | (focus (simp; omega; done)) | decide); intro ws _ _) | ((with_reducible apply (wpl_storebyteH (t := 5))); exact rfl; exact rfl; infer_instance; (first | (with_reducible assumption) | omega); (first | (with_reducible assumption) | omega); (first | (constructor <;> omega) | exact xor_u8_in _ _); intro ws _ _) | ((with_reducible apply (wpl_storeint (t := 3))); exact rfl; exact rfl; infer_instance; (first | (with_reducible assumption) | omega); intro ws _ _) | ((with_reducible apply (wpl_storebyte (t := 5))); exact rfl; exact rfl; infer_instance; (first | (with_reducible assumption) | omega | (focus (simp; done)) | (focus (simp; omega; done)) | decide); (constructor <;> omega); intro ws _ _))
 refine wpList_nil ?_
 unfold onlyN
 refine hK_.out _ _ inferInstance (fun _ => ?_)
 clear hK_ K_
 try simp only [Act.put]
 refine wpAnyH_done (by kernel_rfl) ?_ _
 all_goals
  go_wp2_with fail
  have q5 : w.heap.size ≤ wzo.heap.size := nwo.out.size
  have q6 : wzo.heap.size ≤ wd.heap.size := (inferInstance : SzLe wzo wd).out
  have q7 := st5.chg.size
  have q8 := st6.chg.size
  have q9 := st7.chg.size
  have q10 := st8.chg.size
  have hzol := hOo.out.lt
  have hcz : Chg (only zo) w8 wz := (inferInstance : Ch (only zo) w8 wz).out
  have q11 := hcz.size
  have s56 : Chg nowhere w5 w8 := (st6.chg.trans st7.chg (fun _ _ h => h)).trans st8.chg (fun _ _ h => h)
  have s68 : Chg nowhere w6 w8 := st7.chg.trans st8.chg (fun _ _ h => h)
  have e5 := ((HC5.out.chg s56 (fun _ _ _ h => h)).chg hcz (fun y h1 _ h => by have h' : y = zo := h; omega)).lo (w0 := w) (by omega)
  have e8 := (HC8.out.chg hcz (fun y h1 _ h => by have h' : y = zo := h; omega)).lo (w0 := w) (by omega)
  have eab := (((hab.out.chg s68 (fun _ _ _ h => h)).chg hcz (fun y h1 _ h => by have h' : y = zo := h; omega)).s (O := fun y => w.heap.size ≤ y ∧ y < wz.heap.size) (fun y h1 h2 => ⟨by omega, by omega⟩)).x (lo := w.heap.size) (hi := wz.heap.size) (fun _ h => h)
  have ecd := (((hcd.out.chg st8.chg (fun _ _ _ h => h)).chg hcz (fun y h1 _ h => by have h' : y = zo := h; omega)).s (O := fun y => w.heap.size ≤ y ∧ y < wz.heap.size) (fun y h1 h2 => ⟨by omega, by omega⟩)).x (lo := w.heap.size) (hi := wz.heap.size) (fun _ h => h)
  exact ret_row rfl rfl (n := 6) rfl rfl ⟨a, b, c, d, A5, c5, A8, c8, rfl, stepN, Lib.hid ⟨eab, ecd, e5, e8⟩⟩
end Go.Proofs.YtgjnjhhhbkidbaaGreat
end
section
open Go Go.RowKit
namespace Go.Proofs.YtgjnjhhhbkidbaaGreat
noncomputable def plc (T : List TargetR) (x : TargetR) : Nat := open Classical in if h : ∃ k, PlcR T x k then Classical.choose h else 0
structure RpS where
 sd : H32
 f : H32
 g : Int
 v : Int
 z0 : Nat
 z1 : Nat
 u0 : Int
 u1 : Int
 B : Option Addr
 d : Nat
 T : List TargetR
 C : Option Addr
 cc : Nat
 D : List TargetR
 X : Option Addr
 xc : Nat
 xl : List EvC
 LX : List EvM
 t0 : Value
 t1 : Value
 mt : EvM
 s0 : Value
 s1 : Value
 ms : EvM
 G : Option Addr
 gc : Nat
 gl : List EvC
 LG : List EvM
 O : Nat → Prop
def RpS.tl (s : RpS) : List Value := [.slice s.B s.T.length s.d, .slice s.X s.xl.length s.xc, s.t0, s.t1, s.s0, s.s1, .slice s.G s.gl.length s.gc, .slice s.C s.D.length s.cc]
/-- the blocks that it writes -/
def rpO (zr : Nat) (s : RpS) : Nat → Prop := fun x => x = zr ∨ x = s.z0 ∨ x = s.z1 ∨ rowOf s.B x ∨ rowOf s.C x ∨ rowOf s.X x
structure RpAt (w : World) (zr : Nat) (s : RpS) : Prop where
 hb : HB w zr 73 (rpL s.sd (.pointer (some ⟨s.z0, 0, none⟩)) (.pointer (some ⟨s.z1, 0, none⟩)) s.f s.g s.v s.tl).toArray
 k0 : KeyAt w s.z0 (kSeed s.sd 0) s.u0
 k1 : KeyAt w s.z1 (kSeed s.sd s.g) s.u1
 hB : HO w 42 37 s.B s.T.length s.d (cellsOf s.T)
 hC : HO w 42 37 s.C s.D.length s.cc (cellsOf s.D)
 hX : HO w 32 2 s.X s.xl.length s.xc (cellsOf s.xl)
 hG : Rd w s.G (cellsOf s.gl)
 ap : s.z0 ≠ zr ∧ s.z1 ≠ zr ∧ s.z0 ≠ s.z1
 aB : ∀ a, s.B = some a → a.block ≠ zr ∧ a.block ≠ s.z0 ∧ a.block ≠ s.z1
 aC : ∀ a, s.C = some a → a.block ≠ zr ∧ a.block ≠ s.z0 ∧ a.block ≠ s.z1
 aX : ∀ a, s.X = some a → a.block ≠ zr ∧ a.block ≠ s.z0 ∧ a.block ≠ s.z1
 aBC : ∀ a b, s.B = some a → s.C = some b → a.block ≠ b.block
 aBX : ∀ a b, s.B = some a → s.X = some b → a.block ≠ b.block
 aCX : ∀ a b, s.C = some a → s.X = some b → a.block ≠ b.block
 oLt : ∀ y, s.O y → y < w.heap.size
 oM : ∀ y, s.O y → ¬ rpO zr s y
 gO : ∀ a, s.G = some a → s.O a.block
 et : EvS s.O w s.mt.1 s.mt.2 s.t0 s.t1
 es : EvS s.O w s.ms.1 s.ms.2 s.s0 s.s1
 eX : EvL s.O w s.xl s.LX
 eG : EvL s.O w s.gl s.LG
theorem RpAt.lts {w : World} {zr : Nat} {s : RpS} (R : RpAt w zr s) : ∀ x, rpO zr s x → x < w.heap.size := by
 intro x h
 rcases h with h | h | h | ⟨a, e, h⟩ | ⟨a, e, h⟩ | ⟨a, e, h⟩
 · rw [h]; exact R.hb.out.lt
 · rw [h]; exact R.k0.lt
 · rw [h]; exact R.k1.lt
 · rw [← h]; exact R.hB.out.lt e
 · rw [← h]; exact R.hC.out.lt e
 · rw [← h]; exact R.hX.out.lt e
/-- nothing of it is touched -/
theorem RpAt.chg {w w' : World} {zr : Nat} {s : RpS} {S : Nat → Prop} (R : RpAt w zr s) (c : Chg S w w') (hs : ∀ y, S y → ¬ rpO zr s y ∧ ¬ s.O y) : RpAt w' zr s := by
 have st : Step S w w' := ⟨c⟩
 have i1 := R.hb
 have i2 := R.k0
 have i3 := R.k1
 have i4 := R.hB
 have i5 := R.hC
 have i6 := R.hX
 have o1 : OffB S zr := ⟨fun h => (hs _ h).1 (.inl rfl)⟩
 have o2 : OffB S s.z0 := ⟨fun h => (hs _ h).1 (.inr (.inl rfl))⟩
 have o3 : OffB S s.z1 := ⟨fun h => (hs _ h).1 (.inr (.inr (.inl rfl)))⟩
 have o4 : OffA S s.B := ⟨fun ad e h => (hs _ h).1 (.inr (.inr (.inr (.inl ⟨ad, e, rfl⟩))))⟩
 have o5 : OffA S s.C := ⟨fun ad e h => (hs _ h).1 (.inr (.inr (.inr (.inr (.inl ⟨ad, e, rfl⟩)))))⟩
 have o6 : OffA S s.X := ⟨fun ad e h => (hs _ h).1 (.inr (.inr (.inr (.inr (.inr ⟨ad, e, rfl⟩)))))⟩
 have hO : ∀ y, s.O y → ¬ S y := fun y h1 h2 => (hs y h2).2 h1
 exact ⟨inferInstance, inferInstance, inferInstance, inferInstance, inferInstance, inferInstance, R.hG.chg c (fun _ ad e h => (hs _ h).2 (R.gO ad e)), R.ap, R.aB, R.aC, R.aX, R.aBC, R.aBX, R.aCX, fun y h => Nat.lt_of_lt_of_le (R.oLt y h) c.size, R.oM, R.gO, R.et.chg c hO, R.es.chg c hO, R.eX.chg c hO, R.eG.chg c hO⟩
theorem RpAt.nw {w w' : World} {zr : Nat} {s : RpS} (R : RpAt w zr s) (c : Chg nowhere w w') : RpAt w' zr s := R.chg c (fun _ h => h.elim)
/-- from one state to the next -/
structure RpNext (w w' : World) (zr : Nat) (s s' : RpS) : Prop where
 st : Chg (rpO zr s) w w'
 at' : RpAt w' zr s'
 fr : ∀ x, rpO zr s' x ∨ s'.O x → (rpO zr s x ∨ s.O x) ∨ w.heap.size ≤ x
theorem grown_off {A A' : Option Addr} {w : World} (h : ∀ ad, A' = some ad → A' = A ∨ w.heap.size ≤ ad.block) (z : Nat) (hz : z < w.heap.size) (ha : ∀ ad, A = some ad → ad.block ≠ z) : ∀ ad, A' = some ad → ad.block ≠ z := fun ad e => by
 rcases h ad e with h1 | h1
 · rw [h1] at e
   exact ha ad e
 · omega
noncomputable def pubE (T : List TargetR) (t : TargetR) : Int := (pubR T t (plc T (keyT t.l t.ecu))).1
noncomputable def pubT (T : List TargetR) (t : TargetR) : List TargetR := (pubR T t (plc T (keyT t.l t.ecu))).2
noncomputable def remE (T : List TargetR) (nm ecu : List UInt8) : Int := (remR T nm ecu (plc T (keyT nm ecu))).1
noncomputable def remT (T : List TargetR) (nm ecu : List UInt8) : List TargetR := (remR T nm ecu (plc T (keyT nm ecu))).2
def PubQ (s : RpS) (T' : List TargetR) (zr : Nat) (w w' : World) : Prop := ∃ B' d', RpNext w w' zr s { s with B := B', d := d', T := T' }
theorem bundleS_calls {w : World} {zr : Nat} {s : RpS} (R : RpAt w zr s) (hx : s.xl.length ≤ 1000000) (hg : s.gl.length ≤ 1000000) :
    Calls Tryz.prog 9 #[.pointer (some ⟨zr, 0, none⟩)] w fun e w' => ∃ a b c d A1 c1 A2 c2, e = .returned (.agg #[.slice A1 s.xl.length c1, a, b, c, d, .slice A2 s.gl.length c2]) ∧ Step nowhere w w' ∧ BunG w w' s.LX s.LG s.mt s.ms a b c d A1 A2 s.xl.length s.gl.length := by
 have hb : HB w zr 73 (rpL s.sd (.pointer (some ⟨s.z0, 0, none⟩)) (.pointer (some ⟨s.z1, 0, none⟩)) s.f s.g s.v (.slice s.B s.T.length s.d :: [.slice s.X s.xl.length s.xc, s.t0, s.t1, s.s0, s.s1, .slice s.G s.gl.length s.gc, .slice s.C s.D.length s.cc])).toArray := R.hb
 exact bundleG_calls s.xl s.gl s.LX s.LG R.et.v R.es.v R.hX.out.rd R.hG rfl rfl hx hg R.eX.1.symm R.eG.1.symm (fun i hi => (R.eX.2 i hi).v) (fun i hi => (R.eG.2 i hi).v)
end Go.Proofs.YtgjnjhhhbkidbaaGreat
end
