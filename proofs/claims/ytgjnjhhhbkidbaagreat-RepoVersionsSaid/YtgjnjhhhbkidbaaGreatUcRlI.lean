/- RlI -/
import Derived.Test.YtgjnjhhhbkidbaaGreatUcRsI
open Go Go.RowKit
namespace Go.Proofs.YtgjnjhhhbkidbaaGreat
/-- a mark whose rows lie between two places -/
def MkNew (lo hi : Nat) (x : MarkR) : Prop := (∀ ad, x.A = some ad → lo ≤ ad.block ∧ ad.block < hi) ∧ ∀ ad, x.B = some ad → lo ≤ ad.block ∧ ad.block < hi
theorem MkNew.wide {lo hi hi2 : Nat} {x : MarkR} (h : MkNew lo hi x) (hh : hi ≤ hi2) : MkNew lo hi2 x := ⟨fun ad e => ⟨(h.1 ad e).1, Nat.lt_of_lt_of_le (h.1 ad e).2 hh⟩, fun ad e => ⟨(h.2 ad e).1, Nat.lt_of_lt_of_le (h.2 ad e).2 hh⟩⟩
theorem gt_setM2 (L : List MarkR) (k i : Nat) (r : MarkR) (h : ¬ i = k) : gt (L.set k r) i = gt L i := by
 unfold gt
 rw [List.getD_eq_getElem?_getD, List.getD_eq_getElem?_getD, List.getElem?_set, if_neg (fun e => h e.symm)]
theorem own_capR0 {w : World} {e : TypeId} {s n c : Nat} {A : Option Addr} {xs : List Value} (h : Own w e s A n c xs) : n ≤ c := by
 rcases h.form with ⟨_, h1, h2, _⟩ | ⟨_, _, _, _, h1, _⟩ <;> omega
set_option maxRecDepth 100000 in
set_option maxHeartbeats 6400000 in
theorem cloneX_calls {m : List UInt8} {P : List MkV} {v0 v1 : Value} {w : World} (h : EvV w m P v0 v1) :
    Calls Tryz.prog 33 #[.agg #[v0, v1]] w fun e w' => ∃ u0 u1, e = .returned (.agg #[u0, u1]) ∧ Step nowhere w w' ∧ Hid (EvX w' w.heap.size w'.heap.size m P u0 u1) := by
 obtain ⟨M, nb, cb, A, n, c, l, rfl, rfl, h1, h2, h3, h4, h5, h6, h7, h8⟩ := h
 have HM := Lib.hid h1
 have HA := Lib.hid h4
 have H8 := Lib.hid h8
 have H7 := Lib.hid h7
 have H2 := Lib.hid h2
 have H5 := Lib.hid h5
 clear h1 h4 h8 h7 h2 h5
 go_enter Tryz.func33, Tryz.ntmps33
 go_wp2_with (first | ((with_reducible apply (wpl_box_agg (dst := some 1))); exact rfl; intro ze wze _ _ _) | ((with_reducible apply (wpl_alloc (dst := some 2))); intro zo wzo _ _ _))
 have hze : w.heap.size ≤ ze := Nat.le_of_eq (inferInstance : Born w ze).eq.symm
 have hB : HB wzo ze 32 #[.slice M nb cb, .slice A n c] := inferInstance
 have hO : HB wzo zo 32 #[.slice none 0 0, .slice none 0 0] := inferInstance
 have hzl := hB.out.lt
 have hol := hO.out.lt
 have hMr : HR wzo M (bs m) := ⟨HM.out.chg (stepN (w0 := w) (w := wzo)).chg (fun _ _ _ h => h)⟩
 have hAr : HR wzo A (cellsOf l) := ⟨HA.out.chg (stepN (w0 := w) (w := wzo)).chg (fun _ _ _ h => h)⟩
 have nwo : Nw w wzo := ⟨(stepN (w0 := w) (w := wzo)).chg⟩
 have h2 := H2.out
 have h5 := H5.out
 refine wp_region_N ((only ze)) (by kernel_rfl) (fun wd _ _ => ?_)
 refine' tk 0 _ rfl (by kernel_rfl) (by kernel_rfl) (by kernel_rfl) (fun _ _ _ h => h) (yo (by rfl) fun w' _ => ?_) inferInstance ?_
 rotate_left
 · (go_simp; try with_reducible rfl)
 try simp only [Act.put, sA, sB, sC]
 refine' tk 3 _ rfl (by kernel_rfl) (by kernel_rfl) (by kernel_rfl) (fun _ _ _ h => h) (yo (by rfl) fun w' _ => ?_) inferInstance ?_
 rotate_left
 · (go_simp; try with_reducible rfl)
 try simp only [Act.put, sA, sB, sC]
 refine wpAnyH_ready (rs := [1, 4]) (by kernel_rfl) (by simp) (AllReadyH.cons rfl (fun K_ hK_ => ?_) (AllReadyH.cons rfl (fun K_ hK_ => ?_) AllReadyH.nil))
 focus
  rw [if_pos (by kernel_rfl)]
  refine wpr_of_list ?_
  ((with_reducible apply wpl_loadcellN); exact rfl; infer_instance; exact rfl)
  refine wpList_nil ?_
  unfold onlyN
  refine hK_.out _ _ inferInstance (fun _ => ?_)
  clear hK_ K_
  try simp only [Act.put, sA, sB, sC]
  refine wpAnyH_ready (rs := [2, 4]) (by kernel_rfl) (by simp) (AllReadyH.cons rfl (fun K_ hK_ => ?_) (AllReadyH.cons rfl (fun K_ hK_ => ?_) AllReadyH.nil))
  focus
   go_simp
   refine (cloneBy_calls h2 (by omega)).mono ?_
   rintro e w5 ⟨M', cb', rfl, st5, hM5, nM5⟩
   refine hK_.out _ _ inferInstance (fun _ => ?_)
   clear hK_ K_
   try simp only [Act.put, sA, sB, sC]
   refine goH (i := 4) (by kernel_rfl) rfl (fun K_ hK_ => ?_)
   rw [if_pos (by kernel_rfl)]
   refine wpr_of_list ?_
   ((with_reducible apply wpl_loadcellN); exact rfl; infer_instance; exact rfl)
   refine wpList_nil ?_
   unfold onlyN
   refine hK_.out _ _ inferInstance (fun _ => ?_)
   clear hK_ K_
   try simp only [Act.put, sA, sB, sC]
   refine' tk 6 _ rfl (by kernel_rfl) (by kernel_rfl) (by kernel_rfl) (fun _ _ _ h => h) (yo (by rfl) fun w' _ => ?_) inferInstance ?_
   rotate_left
   · (go_simp; try with_reducible rfl)
   try simp only [Act.put, sA, sB, sC]
   refine goH (i := 5) (by kernel_rfl) rfl (fun K_ hK_ => ?_)
   go_simp
   refine (cloneMs_calls h5 (by omega)).mono ?_
   rintro e w6 ⟨A', c', rfl, st6, hA6, nA6⟩
   refine hK_.out _ _ inferInstance (fun _ => ?_)
   clear hK_ K_
   try simp only [Act.put, sA, sB, sC]
   refine goH (i := 7) (by kernel_rfl) rfl (fun K_ hK_ => ?_)
   rw [if_pos (by kernel_rfl)]
   refine wpr_of_list ?_
   ((with_reducible apply wpl_storecell); exact rfl; exact rfl; infer_instance; exact rfl; (first | (with_reducible assumption) | omega | (focus (simp; done)) | (focus (simp; omega; done)) | decide); intro ws _ _)
   refine wpList_nil ?_
   unfold onlyN
   refine hK_.out _ _ inferInstance (fun _ => ?_)
   clear hK_ K_
   try simp only [Act.put]
   refine' tk 8 _ rfl (by kernel_rfl) (by kernel_rfl) (by kernel_rfl) (fun _ _ _ h => h) (yo (by rfl) fun w' _ => ?_) inferInstance ?_
   rotate_left
   · (go_simp; try with_reducible rfl)
   try simp only [Act.put, sA, sB, sC]
   refine goH (i := 9) (by kernel_rfl) rfl (fun K_ hK_ => ?_)
   rw [if_pos (by kernel_rfl)]
   refine wpr_of_list ?_
   ((with_reducible apply wpl_storecell); exact rfl; exact rfl; infer_instance; exact rfl; (first | (with_reducible assumption) | omega | (focus (simp; done)) | (focus (simp; omega; done)) | decide); intro ws _ _)
   refine wpList_nil ?_
   unfold onlyN
   refine hK_.out _ _ inferInstance (fun _ => ?_)
   clear hK_ K_
   try simp only [Act.put]
   refine wpAnyH_done (by kernel_rfl) ?_ _
  rotate_left 1
  focus
   rw [if_pos (by kernel_rfl)]
   refine wpr_of_list ?_
   ((with_reducible apply wpl_loadcellN); exact rfl; infer_instance; exact rfl)
   refine wpList_nil ?_
   unfold onlyN
   refine hK_.out _ _ inferInstance (fun _ => ?_)
   clear hK_ K_
   try simp only [Act.put, sA, sB, sC]
   refine goH (i := 2) (by kernel_rfl) rfl (fun K_ hK_ => ?_)
   go_simp
   refine (cloneBy_calls h2 (by omega)).mono ?_
   rintro e w5 ⟨M', cb', rfl, st5, hM5, nM5⟩
   refine hK_.out _ _ inferInstance (fun _ => ?_)
   clear hK_ K_
   try simp only [Act.put, sA, sB, sC]
   refine' tk 6 _ rfl (by kernel_rfl) (by kernel_rfl) (by kernel_rfl) (fun _ _ _ h => h) (yo (by rfl) fun w' _ => ?_) inferInstance ?_
   rotate_left
   · (go_simp; try with_reducible rfl)
   try simp only [Act.put, sA, sB, sC]
   refine goH (i := 5) (by kernel_rfl) rfl (fun K_ hK_ => ?_)
   go_simp
   refine (cloneMs_calls h5 (by omega)).mono ?_
   rintro e w6 ⟨A', c', rfl, st6, hA6, nA6⟩
   refine hK_.out _ _ inferInstance (fun _ => ?_)
   clear hK_ K_
   try simp only [Act.put, sA, sB, sC]
   refine goH (i := 7) (by kernel_rfl) rfl (fun K_ hK_ => ?_)
   rw [if_pos (by kernel_rfl)]
   refine wpr_of_list ?_
   ((with_reducible apply wpl_storecell); exact rfl; exact rfl; infer_instance; exact rfl; (first | (with_reducible assumption) | omega | (focus (simp; done)) | (focus (simp; omega; done)) | decide); intro ws _ _)
   refine wpList_nil ?_
   unfold onlyN
   refine hK_.out _ _ inferInstance (fun _ => ?_)
   clear hK_ K_
   try simp only [Act.put]
   refine' tk 8 _ rfl (by kernel_rfl) (by kernel_rfl) (by kernel_rfl) (fun _ _ _ h => h) (yo (by rfl) fun w' _ => ?_) inferInstance ?_
   rotate_left
   · (go_simp; try with_reducible rfl)
   try simp only [Act.put, sA, sB, sC]
   refine goH (i := 9) (by kernel_rfl) rfl (fun K_ hK_ => ?_)
   rw [if_pos (by kernel_rfl)]
   refine wpr_of_list ?_
   ((with_reducible apply wpl_storecell); exact rfl; exact rfl; infer_instance; exact rfl; (first | (with_reducible assumption) | omega | (focus (simp; done)) | (focus (simp; omega; done)) | decide); intro ws _ _)
   refine wpList_nil ?_
   unfold onlyN
   refine hK_.out _ _ inferInstance (fun _ => ?_)
   clear hK_ K_
   try simp only [Act.put]
   refine wpAnyH_done (by kernel_rfl) ?_ _
  rotate_left 1
 rotate_left 2
 focus
  rw [if_pos (by kernel_rfl)]
  refine wpr_of_list ?_
  ((with_reducible apply wpl_loadcellN); exact rfl; infer_instance; exact rfl)
  refine wpList_nil ?_
  unfold onlyN
  refine hK_.out _ _ inferInstance (fun _ => ?_)
  clear hK_ K_
  try simp only [Act.put, sA, sB, sC]
  refine goH (i := 1) (by kernel_rfl) rfl (fun K_ hK_ => ?_)
  rw [if_pos (by kernel_rfl)]
  refine wpr_of_list ?_
  ((with_reducible apply wpl_loadcellN); exact rfl; infer_instance; exact rfl)
  refine wpList_nil ?_
  unfold onlyN
  refine hK_.out _ _ inferInstance (fun _ => ?_)
  clear hK_ K_
  try simp only [Act.put, sA, sB, sC]
  refine goH (i := 2) (by kernel_rfl) rfl (fun K_ hK_ => ?_)
  go_simp
  refine (cloneBy_calls h2 (by omega)).mono ?_
  rintro e w5 ⟨M', cb', rfl, st5, hM5, nM5⟩
  refine hK_.out _ _ inferInstance (fun _ => ?_)
  clear hK_ K_
  try simp only [Act.put, sA, sB, sC]
  refine' tk 6 _ rfl (by kernel_rfl) (by kernel_rfl) (by kernel_rfl) (fun _ _ _ h => h) (yo (by rfl) fun w' _ => ?_) inferInstance ?_
  rotate_left
  · (go_simp; try with_reducible rfl)
  try simp only [Act.put, sA, sB, sC]
  refine goH (i := 5) (by kernel_rfl) rfl (fun K_ hK_ => ?_)
  go_simp
  refine (cloneMs_calls h5 (by omega)).mono ?_
  rintro e w6 ⟨A', c', rfl, st6, hA6, nA6⟩
  refine hK_.out _ _ inferInstance (fun _ => ?_)
  clear hK_ K_
  try simp only [Act.put, sA, sB, sC]
  refine goH (i := 7) (by kernel_rfl) rfl (fun K_ hK_ => ?_)
  rw [if_pos (by kernel_rfl)]
  refine wpr_of_list ?_
  ((with_reducible apply wpl_storecell); exact rfl; exact rfl; infer_instance; exact rfl; (first | (with_reducible assumption) | omega | (focus (simp; done)) | (focus (simp; omega; done)) | decide); intro ws _ _)
  refine wpList_nil ?_
  unfold onlyN
  refine hK_.out _ _ inferInstance (fun _ => ?_)
  clear hK_ K_
  try simp only [Act.put]
  refine' tk 8 _ rfl (by kernel_rfl) (by kernel_rfl) (by kernel_rfl) (fun _ _ _ h => h) (yo (by rfl) fun w' _ => ?_) inferInstance ?_
  rotate_left
  · (go_simp; try with_reducible rfl)
  try simp only [Act.put, sA, sB, sC]
  refine goH (i := 9) (by kernel_rfl) rfl (fun K_ hK_ => ?_)
  rw [if_pos (by kernel_rfl)]
  refine wpr_of_list ?_
  ((with_reducible apply wpl_storecell); exact rfl; exact rfl; infer_instance; exact rfl; (first | (with_reducible assumption) | omega | (focus (simp; done)) | (focus (simp; omega; done)) | decide); intro ws _ _)
  refine wpList_nil ?_
  unfold onlyN
  refine hK_.out _ _ inferInstance (fun _ => ?_)
  clear hK_ K_
  try simp only [Act.put]
  refine wpAnyH_done (by kernel_rfl) ?_ _
 rotate_left 1
 all_goals
  obtain ⟨wa, hwa⟩ : ∃ x : World, x = ws := ⟨_, rfl⟩
  subst hwa
  have hBa : HB wa ze 32 #[.slice M' nb cb', .slice A' n c'] := inferInstance
  have hOa : HB wa zo 32 #[.slice none 0 0, .slice none 0 0] := inferInstance
  have hAa : HO wa 133 35 A' n c' (cellsOf l) := inferInstance
  have hMa : HR wa M' (bs m) := inferInstance
  have nwa : Nw w wa := inferInstance
  have szd : wzo.heap.size ≤ wd.heap.size := (inferInstance : SzLe wzo wd).out
  have sz5 : wd.heap.size ≤ w5.heap.size := st5.chg.size
  have hAn : ∀ ad, A' = some ad → ad.block ≠ ze ∧ ad.block ≠ zo ∧ w.heap.size ≤ ad.block ∧ (∀ bd, M' = some bd → bd.block ≠ ad.block) := fun ad e => by
   have h9 := nA6.out ad e
   refine ⟨by omega, by omega, by omega, fun bd e2 h => ?_⟩
   have := hM5.out.lt e2
   omega
  have HAN := Lib.hid hAn
  have oze : OffB (rowOf A') ze := ⟨fun ⟨ad, e, h⟩ => (HAN.out ad e).1 h⟩
  have ozo : OffB (rowOf A') zo := ⟨fun ⟨ad, e, h⟩ => (HAN.out ad e).2.1 h⟩
  have oM : OffA (rowOf A') M' := ⟨fun bd e ⟨ad, e2, h⟩ => (HAN.out ad e2).2.2.2 bd e h.symm⟩
  have abA : Above w (rowOf A') := ⟨fun x ⟨ad, e, h⟩ => by have := (HAN.out ad e).2.2.1; omega⟩
  have hzow0 : w.heap.size ≤ zo := by have := (inferInstance : Born wze zo).eq; have := (inferInstance : SzLe w wze).out; omega
  have hOk : Hid (∀ x ∈ l, MkOk wa (gzr zo A') x) := Lib.hid (fun x hx => by
   obtain ⟨q1, q2, q3⟩ := H8.out x hx
   refine ⟨⟨q1.1.chg nwa.out (fun _ _ _ h => h), q1.2.chg nwa.out (fun _ _ _ h => h)⟩, fun ad e hne h => ?_, fun ad e hne h => ?_, q2, q3⟩
   · have := rd_lt q1.1 hne e
     rcases h with h | ⟨bd, e2, h⟩
     · omega
     · have := (HAN.out bd e2).2.2.1
       omega
   · have := rd_lt q1.2 hne e
     rcases h with h | ⟨bd, e2, h⟩
     · omega
     · have := (HAN.out bd e2).2.2.1
       omega)
  have hmv : Hid (l.map MarkR.mv = P) := H7
  have hln : l.length = n := H5.out
  have hn9 : n ≤ 9223372036854775807 := by omega
  have hMn : ∀ ad, M' = some ad → ad.block ≠ zo := fun ad e => by have := nM5.out ad e; omega
  have hzoa : zo < wa.heap.size := hOa.out.lt
  have HMN : Hid (∀ ad, M' = some ad → w.heap.size ≤ ad.block ∧ ad.block < wa.heap.size) := Lib.hid (fun ad e => ⟨by have := nM5.out ad e; omega, Nat.lt_of_lt_of_le (hM5.out.lt e) (inferInstance : SzLe w5 wa).out⟩)
  have hcapM : nb ≤ cb' := own_capR0 hM5.out
  clear hM5 nM5 hA6 nA6 hAn st5 st6 hMr hAr hB hO nwo szd sz5 h5 hze hzl hol
  go_wp2_with (first | ((with_reducible apply wpl_loadcellN); exact rfl; infer_instance; exact rfl))
  go_loopw [16] (fun iv wr => ∃ (k : Nat) (L : List MarkR), k ≤ n ∧ iv = .int .i64 (k : Int) ∧ L.length = n ∧ Nw w wr ∧ HB wr ze 32 #[.slice M' nb cb', .slice A' n c'] ∧ HB wr zo 32 #[.slice none 0 0, .slice none 0 0] ∧ HO wr 133 35 A' n c' (cellsOf L) ∧ HR wr M' (bs m) ∧ Hid (L.map MarkR.mv = P) ∧ Hid (∀ x ∈ L, MkOk wr (gzr zo A') x) ∧ Hid (wa.heap.size ≤ wr.heap.size ∧ ∀ i, i < k → MkNew w.heap.size wr.heap.size (gt L i))) (fun iv _ => n - (intOf iv).toNat)
  case atStart => exact ⟨0, l, Nat.zero_le _, rfl, hln, nwa, hBa, hOa, hAa, hMa, hmv, hOk, Lib.hid ⟨Nat.le_refl _, fun i h => absurd h (Nat.not_lt_zero _)⟩⟩
  case round =>
   clear hln nwa hBa hOa hAa hMa hmv hOk
   obtain ⟨k, L, hk, rfl, hLn, nwr, hE, hZ, hL, hMM, hmv, hOk, HNEW⟩ := hrel
   have hrL : HR wr A' (cellsOf L) := ⟨hL.out.rd⟩
   by_cases hlt : k < n
   · have hltI : (k : Int) < n := by omega
     have hkl : k < L.length := by omega
     have hszk : (RowC.enc (gt L k)).toArray.size = 35 := RowC.len _
     have honk := enc_one (gt L k)
     go_wp2_with (first | ((with_reducible apply (wpl_alloc (dst := some 4))); intro z4 wz4 _ _ _) | ((with_reducible apply wpl_storerow); exact rfl; exact rfl; infer_instance; infer_instance; (first | (with_reducible assumption) | (with_reducible exact H32.size _) | (with_reducible exact enc_sz _ rfl) | kernel_rfl); (first | (with_reducible assumption) | (with_reducible exact H32.size _) | (with_reducible exact enc_sz _ rfl) | kernel_rfl); (first | (with_reducible exact u8s_one _) | (with_reducible assumption) | (with_reducible exact enc_one _) | kernel_rfl); intro ws _ _) | ((with_reducible apply (wpl_indexE (α := MarkR) (t := 30))); exact rfl; exact rfl; infer_instance; infer_instance; (first | (with_reducible assumption) | omega | (focus (simp; done)) | (focus (simp; omega; done)) | decide); exact rfl; (decide); (first | (with_reducible assumption) | omega | (focus (simp; done)) | (focus (simp; omega; done)) | decide)) | ((with_reducible apply (wpl_loadE (α := MarkR) (t := 133))); infer_instance; exact rfl; infer_instance; exact rfl; (decide); (first | (with_reducible assumption) | omega | (focus (simp; done)) | (focus (simp; omega; done)) | decide)))
     obtain ⟨wq, hwq⟩ : ∃ x : World, x = ws := ⟨_, rfl⟩
     subst hwq
     obtain ⟨x, hx⟩ : ∃ x, x = gt L k := ⟨_, rfl⟩
     have hmem : x ∈ L := by rw [hx]; exact gt_mem L k hkl
     have h4q : HB wq z4 133 (RowC.enc x).toArray := by rw [hx]; infer_instance
     have hcq : Chg nowhere wr wq := (stepN (w0 := wr) (w := wq)).chg
     have nwq : Nw w wq := ⟨nwr.out.trans hcq (fun _ _ h => h)⟩
     have hxo := (hOk.out x hmem).chg hcq (fun _ h => h.elim)
     have hxA : HR wq x.A (cellsOf x.l) := ⟨hxo.1.1⟩
     have hxB : HR wq x.B (cellsOf x.p) := ⟨hxo.1.2⟩
     have hxl := hxo.2.2.2.1
     have hxp := hxo.2.2.2.2
     have hz4 : wr.heap.size ≤ z4 := Nat.le_of_eq (inferInstance : Born wr z4).eq.symm
     have hAl : ∀ ad, A' = some ad → ad.block < wr.heap.size := fun ad e => hL.out.lt e
     have o4 : OffB (rowOf A') z4 := ⟨fun ⟨ad, e, h⟩ => by have := hAl ad e; omega⟩
     have oxA : OffR (rowOf A') x.A (cellsOf x.l) := ⟨fun hne ad e h => hxo.2.1 ad e hne (.inr h)⟩
     have oxB : OffR (rowOf A') x.B (cellsOf x.p) := ⟨fun hne ad e h => hxo.2.2.1 ad e hne (.inr h)⟩
     have hEq : HB wq ze 32 #[.slice M' nb cb', .slice A' n c'] := inferInstance
     have hZq : HB wq zo 32 #[.slice none 0 0, .slice none 0 0] := inferInstance
     have hLq : HO wq 133 35 A' n c' (cellsOf L) := inferInstance
     have hMq : HR wq M' (bs m) := inferInstance
     have hszq := hcq.size
     have HX := Lib.hid hx
     have HOK := hOk
     have HMV := hmv
     have HCQ := Lib.hid hcq
     clear hE hZ hL hMM hOk hmv hrL hxo hszk honk hcq hx hmem
     have nwr9 := nwr
     clear nwr
     refine wp_region_N ((rowOf A')) (by kernel_rfl) (fun wd _ _ => ?_)
     refine' tk 0 _ rfl (by kernel_rfl) (by kernel_rfl) (by kernel_rfl) (fun _ _ _ h => h) (yo (by rfl) fun w' _ => ?_) inferInstance ?_
     rotate_left
     · (go_simp; try with_reducible rfl)
     try simp only [Act.put, sA, sB, sC]
     refine' tk 1 _ rfl (by kernel_rfl) (by kernel_rfl) (by kernel_rfl) (fun _ _ _ h => h) (yo (by rfl) fun w' _ => ?_) inferInstance ?_
     rotate_left
     · ((apply ev_loadcellN); exact rfl; infer_instance; infer_instance; exact rfl)
     try simp only [Act.put, sA, sB, sC]
     refine' tk 2 _ rfl (by kernel_rfl) (by kernel_rfl) (by kernel_rfl) (fun _ _ _ h => h) (yo (by rfl) fun w' _ => ?_) inferInstance ?_
     rotate_left
     · (go_simp; try with_reducible rfl)
     try simp only [Act.put, sA, sB, sC]
     refine' tk 3 _ rfl (by kernel_rfl) (by kernel_rfl) (by kernel_rfl) (fun _ _ _ h => h) (yo (by rfl) fun w' _ => ?_) inferInstance ?_
     rotate_left
     · (go_simp; try with_reducible rfl)
     try simp only [Act.put, sA, sB, sC]
     refine' tk 4 _ rfl (by kernel_rfl) (by kernel_rfl) (by kernel_rfl) (fun _ _ _ h => h) (yo (by rfl) fun w' _ => ?_) inferInstance ?_
     rotate_left
     · ((apply ev_loadcellN); exact rfl; infer_instance; infer_instance; exact rfl)
     try simp only [Act.put, sA, sB, sC]
     refine' tk 5 _ rfl (by kernel_rfl) (by kernel_rfl) (by kernel_rfl) (fun _ _ _ h => h) (yo (by rfl) fun w' _ => ?_) inferInstance ?_
     rotate_left
     · (go_simp; try with_reducible rfl)
     try simp only [Act.put, sA, sB, sC]
     refine' tk 6 _ rfl (by kernel_rfl) (by kernel_rfl) (by kernel_rfl) (fun _ _ _ h => h) (yo (by rfl) fun w' _ => ?_) inferInstance ?_
     rotate_left
     · (go_simp; try with_reducible rfl)
     try simp only [Act.put, sA, sB, sC]
     refine' tk 7 _ rfl (by kernel_rfl) (by kernel_rfl) (by kernel_rfl) (fun _ _ _ h => h) (yo (by rfl) fun w' _ => ?_) inferInstance ?_
     rotate_left
     · (go_simp; try with_reducible rfl)
     try simp only [Act.put, sA, sB, sC]
     refine' tk 8 _ rfl (by kernel_rfl) (by kernel_rfl) (by kernel_rfl) (fun _ _ _ h => h) (yo (by rfl) fun w' _ => ?_) inferInstance ?_
     rotate_left
     · ((apply (ev_loadcellN (k := 33))); exact rfl; infer_instance; infer_instance; exact mkv_chains _)
     try simp only [Act.put, sA, sB, sC]
     refine' tk 10 _ rfl (by kernel_rfl) (by kernel_rfl) (by kernel_rfl) (fun _ _ _ h => h) (yo (by rfl) fun w' _ => ?_) inferInstance ?_
     rotate_left
     · (go_simp; try with_reducible rfl)
     try simp only [Act.put, sA, sB, sC]
     refine' tk 11 _ rfl (by kernel_rfl) (by kernel_rfl) (by kernel_rfl) (fun _ _ _ h => h) (yo (by rfl) fun w' _ => ?_) inferInstance ?_
     rotate_left
     · (go_simp; try with_reducible rfl)
     try simp only [Act.put, sA, sB, sC]
     refine' tk 12 _ rfl (by kernel_rfl) (by kernel_rfl) (by kernel_rfl) (fun _ _ _ h => h) (yo (by rfl) fun w' _ => ?_) inferInstance ?_
     rotate_left
     · ((apply (ev_loadcellN (k := 34))); exact rfl; infer_instance; infer_instance; exact mkv_path _)
     try simp only [Act.put, sA, sB, sC]
     refine goH (i := 9) (by kernel_rfl) rfl (fun K_ hK_ => ?_)
     go_simp
     refine (cloneHs_calls (l := x.l) rfl (by omega)).mono ?_
     rintro e w5 ⟨A5, c5, rfl, st5, hA5, nA5⟩
     refine hK_.out _ _ inferInstance (fun _ => ?_)
     clear hK_ K_
     try simp only [Act.put, sA, sB, sC]
     refine goH (i := 13) (by kernel_rfl) rfl (fun K_ hK_ => ?_)
     go_simp
     refine (cloneHs_calls (l := x.p) rfl (by omega)).mono ?_
     rintro e w6 ⟨A6, c6, rfl, st6, hA6, nA6⟩
     have hL6 : HO w6 133 35 A' n c' (cellsOf L) := inferInstance
     have HE1 : Hid (RowC.enc (x.setC A5 c5) = (RowC.enc (gt L k)).take 33 ++ [.slice A5 x.l.length c5] ++ (RowC.enc (gt L k)).drop (33 + 1)) := Lib.hid (by rw [← HX.out]; exact enc_setC x A5 c5)
     have HE2 : Hid (RowC.enc ((x.setC A5 c5).setB A6 c6) = (RowC.enc (gt (L.set k (x.setC A5 c5)) k)).take 34 ++ [.slice A6 x.p.length c6] ++ (RowC.enc (gt (L.set k (x.setC A5 c5)) k)).drop (34 + 1)) := Lib.hid (by rw [gt_setM _ _ _ hkl]; exact enc_setB (x.setC A5 c5) A6 c6)
     have hkl2 : k < (L.set k (x.setC A5 c5)).length := by rw [List.length_set]; exact hkl
     refine hK_.out _ _ inferInstance (fun _ => ?_)
     clear hK_ K_
     try simp only [Act.put, sA, sB, sC]
     refine goH (i := 14) (by kernel_rfl) rfl (fun K_ hK_ => ?_)
     rw [if_pos (by kernel_rfl)]
     refine wpr_of_list ?_
     ((with_reducible apply (wpl_indexE (α := MarkR) (t := 30))); exact rfl; exact rfl; infer_instance; infer_instance; (first | (with_reducible assumption) | omega | (focus (simp; done)) | (focus (simp; omega; done)) | decide); exact rfl; (decide); (first | (with_reducible assumption) | omega | (focus (simp; done)) | (focus (simp; omega; done)) | decide))
     refine wpList_nil ?_
     unfold onlyN
     refine hK_.out _ _ inferInstance (fun _ => ?_)
     clear hK_ K_
     try simp only [Act.put, sA, sB, sC]
     refine goH (i := 15) (by kernel_rfl) rfl (fun K_ hK_ => ?_)
     rw [if_pos (by kernel_rfl)]
     refine wpr_of_list ?_
     ((with_reducible apply (wpl_fieldE (t := 133))); exact Tryz.underlying133; exact rfl; (kernel_rfl); exact rfl; infer_instance; exact cells_pos (by decide) (by omega))
     refine wpList_nil ?_
     unfold onlyN
     refine hK_.out _ _ inferInstance (fun _ => ?_)
     clear hK_ K_
     try simp only [Act.put, sA, sB, sC]
     refine goH (i := 16) (by kernel_rfl) rfl (fun K_ hK_ => ?_)
     rw [if_pos (by kernel_rfl)]
     refine wpr_of_list ?_
     ((with_reducible apply (wpl_fieldE (t := 126))); exact Tryz.underlying126; exact rfl; (kernel_rfl); exact rfl; infer_instance; exact cells_pos (by decide) (by omega))
     refine wpList_nil ?_
     unfold onlyN
     refine hK_.out _ _ inferInstance (fun _ => ?_)
     clear hK_ K_
     try simp only [Act.put, sA, sB, sC]
     refine goH (i := 17) (by kernel_rfl) rfl (fun K_ hK_ => ?_)
     rw [if_pos (by kernel_rfl)]
     refine wpr_of_list ?_
     ((with_reducible apply (wpl_storeC (α := MarkR) (k := k) (j := 33) (s := 35))); exact rfl; exact rfl; exact hL6; infer_instance; exact rfl; exact rfl; exact hkl; (decide); exact HE1.out; intro wx stx hax)
     refine wpList_nil ?_
     unfold onlyN
     refine hK_.out _ _ inferInstance (fun _ => ?_)
     clear hK_ K_
     try simp only [Act.put]
     refine goH (i := 18) (by kernel_rfl) rfl (fun K_ hK_ => ?_)
     rw [if_pos (by kernel_rfl)]
     refine wpr_of_list ?_
     ((with_reducible apply (wpl_indexE (α := MarkR) (t := 30))); exact rfl; exact rfl; infer_instance; infer_instance; (first | (with_reducible assumption) | omega | (focus (simp; done)) | (focus (simp; omega; done)) | decide); exact rfl; (decide); (first | (with_reducible assumption) | omega | (focus (simp; done)) | (focus (simp; omega; done)) | decide))
     refine wpList_nil ?_
     unfold onlyN
     refine hK_.out _ _ inferInstance (fun _ => ?_)
     clear hK_ K_
     try simp only [Act.put, sA, sB, sC]
     refine goH (i := 19) (by kernel_rfl) rfl (fun K_ hK_ => ?_)
     rw [if_pos (by kernel_rfl)]
     refine wpr_of_list ?_
     ((with_reducible apply (wpl_fieldE (t := 133))); exact Tryz.underlying133; exact rfl; (kernel_rfl); exact rfl; infer_instance; exact cells_pos (by decide) (by omega))
     refine wpList_nil ?_
     unfold onlyN
     refine hK_.out _ _ inferInstance (fun _ => ?_)
     clear hK_ K_
     try simp only [Act.put, sA, sB, sC]
     refine goH (i := 20) (by kernel_rfl) rfl (fun K_ hK_ => ?_)
     rw [if_pos (by kernel_rfl)]
     refine wpr_of_list ?_
     ((with_reducible apply (wpl_fieldE (t := 126))); exact Tryz.underlying126; exact rfl; (kernel_rfl); exact rfl; infer_instance; exact cells_pos (by decide) (by omega))
     refine wpList_nil ?_
     unfold onlyN
     refine hK_.out _ _ inferInstance (fun _ => ?_)
     clear hK_ K_
     try simp only [Act.put, sA, sB, sC]
     refine goH (i := 21) (by kernel_rfl) rfl (fun K_ hK_ => ?_)
     rw [if_pos (by kernel_rfl)]
     refine wpr_of_list ?_
     ((with_reducible apply (wpl_storeC (α := MarkR) (k := k) (j := 34) (s := 35))); exact rfl; exact rfl; exact hax; infer_instance; exact rfl; exact rfl; exact hkl2; (decide); exact HE2.out; intro wy sty hay)
     refine wpList_nil ?_
     unfold onlyN
     refine hK_.out _ _ inferInstance (fun _ => ?_)
     clear hK_ K_
     try simp only [Act.put]
     refine wpAnyH_done (by kernel_rfl) ?_ _
     all_goals
      have szw : wq.heap.size ≤ wd.heap.size := (inferInstance : SzLe wq wd).out
      have sz5 : wd.heap.size ≤ w5.heap.size := st5.chg.size
      have hzoq : zo < wq.heap.size := hZq.out.lt
      have o5 : OffA (rowOf A') A5 := ⟨fun ad e ⟨bd, e2, h⟩ => by have := nA5.out ad e; have := hAl bd e2; omega⟩
      have o6 : OffA (rowOf A') A6 := ⟨fun ad e ⟨bd, e2, h⟩ => by have := nA6.out ad e; have := hAl bd e2; omega⟩
      have hA5y : HO wy 23 32 A5 x.l.length c5 (cellsOf x.l) := inferInstance
      have hA6y : HO wy 23 32 A6 x.p.length c6 (cellsOf x.p) := inferInstance
      have hcA : Chg (rowOf A') wq wy := (inferInstance : Ch (rowOf A') wq wy).out
      have nwy : Nw w wy := ⟨nwq.out.trans hcA (fun y hy h => abA.out y h |> fun h2 => by omega)⟩
      have hEy : HB wy ze 32 #[.slice M' nb cb', .slice A' n c'] := inferInstance
      have hZy : HB wy zo 32 #[.slice none 0 0, .slice none 0 0] := inferInstance
      have hMy : HR wy M' (bs m) := ⟨hMq.out.chg hcA (fun _ ad e h => oM.out ad e h)⟩
      go_wp2_with fail
      refine ⟨⟨k + 1, (L.set k (x.setC A5 c5)).set k ((x.setC A5 c5).setB A6 c6), by omega, by go_num, by rw [List.length_set, List.length_set]; exact hLn, nwy, hEy, hZy, hay, hMy, Lib.hid ?_, Lib.hid ?_, Lib.hid ⟨?_, ?_⟩⟩, by simp [intOf]; omega⟩
      · rw [List.set_set, map_set MarkR.mv L k _ hkl (by rw [← HX.out]; rfl)]
        exact HMV.out
      · rw [List.set_set]
        intro y hy
        rcases List.mem_or_eq_of_mem_set hy with h | h
        · exact ((HOK.out y h).chg HCQ.out (fun _ h => h.elim)).chg hcA (fun _ h => .inr h)
        · rw [h]
          refine ⟨⟨hA5y.out.rd, hA6y.out.rd⟩, fun ad e _ h => ?_, fun ad e _ h => ?_, hxl, hxp⟩
          · rcases h with h | h
            · have := nA5.out ad e
              omega
            · exact o5.out ad e h
          · rcases h with h | h
            · have := nA6.out ad e
              omega
            · exact o6.out ad e h
      · have h1 := HNEW.out.1
        have h2 := hcA.size
        omega
      · rw [List.set_set]
        intro i hi
        have h2 := hcA.size
        by_cases e : i = k
        · subst e
          rw [gt_setM _ _ _ hkl]
          exact ⟨fun ad e => ⟨by have := nA5.out ad e; have := nwr9.out.size; omega, hA5y.out.lt e⟩, fun ad e => ⟨by have := nA6.out ad e; have := nwr9.out.size; omega, hA6y.out.lt e⟩⟩
        · rw [gt_setM2 _ _ _ _ e]
          exact (HNEW.out.2 i (by omega)).wide (by omega)
   · have hltI : ¬ (k : Int) < n := by omega
     go_wp2_with (first | ((with_reducible apply wpl_loadrow); exact rfl; infer_instance; infer_instance; (first | (with_reducible assumption) | (with_reducible exact H32.size _) | (with_reducible exact enc_sz _ rfl) | kernel_rfl)) | ((with_reducible apply wpl_storerow); exact rfl; exact rfl; infer_instance; infer_instance; (first | (with_reducible assumption) | (with_reducible exact H32.size _) | (with_reducible exact enc_sz _ rfl) | kernel_rfl); (first | (with_reducible assumption) | (with_reducible exact H32.size _) | (with_reducible exact enc_sz _ rfl) | kernel_rfl); (first | (with_reducible exact u8s_one _) | (with_reducible assumption) | (with_reducible exact enc_one _) | kernel_rfl); intro ws _ _))
     have hcz : Chg (only zo) wr ws := (inferInstance : Ch (only zo) wr ws).out
     have hsz := hcz.size
     refine ret_row rfl rfl (n := 2) rfl rfl ⟨_, _, rfl, stepN, Lib.hid ⟨M', nb, cb', A', n, c', L, rfl, rfl, ?_, h2, h3, hcapM, ?_, hLn, h6, hmv.out, fun x hx => ?_, fun ad e => ?_, fun ad e => ?_, fun x hx => ?_⟩⟩
     · exact hMM.out.chg hcz (fun _ ad e h => hMn ad e h)
     · exact hL.out.rd.chg hcz (fun _ ad e h => (HAN.out ad e).2.1 h)
     · have h9 := (hOk.out x hx).chg hcz (fun _ h => .inl h)
       exact ⟨h9.1, h9.2.2.2⟩
     · have h8 := HMN.out ad e
       have h9 := HNEW.out.1
       omega
     · have h8 := hL.out.lt e
       have h9 := (HAN.out ad e).2.2.1
       omega
     · obtain ⟨i, hi, rfl⟩ := List.getElem_of_mem hx
       have e9 : gt L i = L[i] := by simp [gt, List.getD_eq_getElem?_getD, hi]
       rw [← e9]
       exact (HNEW.out.2 i (by omega)).wide (by omega)
end Go.Proofs.YtgjnjhhhbkidbaaGreat
