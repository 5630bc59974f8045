/- DrC, DrD -/
import Derived.Test.YtmnapacibpnodaaGreatUeDrB
section
open Go Go.RowKit
namespace Go.Proofs.YtmnapacibpnodaaGreat
def EnrR.setW (r : EnrR) (hw : List UInt8) : EnrR := ⟨r.l, hw, r.pub, r.tl, r.tlen, r.tone⟩
def EnrR.setP (r : EnrR) (pub : H32) : EnrR := ⟨r.l, r.hw, pub, r.tl, r.tlen, r.tone⟩
theorem enc_setW (r : EnrR) (hw : List UInt8) : RowC.enc (r.setW hw) = (RowC.enc r).take 1 ++ [.string (strL hw)] ++ (RowC.enc r).drop (1 + 1) := rfl
theorem enc_setP (r : EnrR) (pub : H32) : RowC.enc (r.setP pub) = (RowC.enc r).take 2 ++ (u8s pub.l).toList ++ (RowC.enc r).drop (2 + 32) := by
  have h : (RowC.enc r).drop (2 + 32) = r.tl := by
    show (bs r.pub.l ++ r.tl).drop 32 = r.tl
    exact List.drop_left' (bsl r.pub)
  rw [h]
  rfl
theorem HB.row_eqD {w : World} {g : Nat} {t : TypeId} {cs cs' : Array Value} (h : HB w g t cs) (e : cs = cs') : HB w g t cs' := e ▸ h
theorem run_enr (nm : List UInt8) (w : World) : (Instr.build 59 #[(0, .string (strL nm))]).run Tryz.prog w = .ok (.agg (RowC.enc (EnrR.new nm)).toArray) w := by kernel_rfl
theorem gt_new (L : List EnrR) (r : EnrR) : gt (L ++ [r]) L.length = r := by simp [gt, List.getD_eq_getElem?_getD]
theorem gt_setE (L : List EnrR) (k : Nat) (r : EnrR) (h : k < L.length) : gt (L.set k r) k = r := by simp [gt, List.getD_eq_getElem?_getD, h]
instance cellStr : CellT Tryz.prog 9 := ⟨fun _ => by kernel_rfl, fun _ => by kernel_rfl⟩
/-- the director, its row and the row's next place -/
def eset (zd : Nat) (A A' : Option Addr) : Nat → Prop := fun x => x = zd ∨ rowOf A x ∨ rowOf A' x
instance intoE1 (w : World) (z : Nat) (A A' : Option Addr) : Into w (only z) (eset z A A') := ⟨fun _ _ h => .inl h⟩
instance intoE2 (w : World) (z : Nat) (A A' : Option Addr) : Into w (rowOf A) (eset z A A') := ⟨fun _ _ h => .inr (.inl h)⟩
instance (priority := 900) intoE3 (w : World) (z : Nat) (A A' : Option Addr) : Into w (rowOf A') (eset z A A') := ⟨fun _ _ h => .inr (.inr h)⟩
set_option maxRecDepth 100000 in
set_option maxHeartbeats 3200000 in
theorem enrNewC_calls {w0 w : World} {zd zr : Nat} {s : DS} [nw : Nw w0 w] (D : DrAt w0 w zd zr s) (nm hw : List UInt8) (pub : H32) (h1 : nameL nm = true) (h2 : nameL hw = true) (hrise : RiseE s.L) (hup : ∀ k, k < s.L.length → Op.bytesLess (gt s.L k).l nm = true) (hroom : s.n < 4) :
    Calls Tryz.prog 6 #[.pointer (some ⟨zd, 0, none⟩), .string (strL nm), .string (strL hw), .agg (u8s pub.l)] w fun e w' => ∃ A' c', e = .returned (.int .i64 0) ∧ Nw w0 w' ∧ Step (eset zd s.A A') w w' ∧ (∀ ad, A' = some ad → A' = s.A ∨ w.heap.size ≤ ad.block) ∧ DrAt w0 w' zd zr ⟨A', s.n + 1, c', s.L ++ [((EnrR.new nm).setW hw).setP pub], s.sd, s.p0, s.p1, s.f, s.g, s.v, s.suf, s.B, s.m, s.d, s.T⟩ := by
  obtain ⟨A, n, c, L, sd, p0, p1, f, g, v, suf, B, m, d, T⟩ := s
  obtain ⟨hd, ha, hl, hr, hb, hm, hs, zz, az, bz, ld, lr, la, lb⟩ := D
  dsimp only at hd ha hl hr hb hm hs az bz la lb
  dsimp only at hrise hup hroom
  have HS := Lib.hid hrise
  have HL := Lib.hid hl
  have HN : Hid (n ≤ 1000000) := Lib.hid (by omega)
  have HUP := Lib.hid hup
  have hfI : ¬ 4 ≤ (n : Int) := by omega
  have hn9 : n ≤ 9223372036854775807 := by omega
  have hdl := hd.out.lt
  have hrl := hr.out.lt
  have oAd : OffB (rowOf A) zd := ⟨fun ⟨ad, e, h⟩ => (az ad e).1 h⟩
  have oAr : OffB (rowOf A) zr := ⟨fun ⟨ad, e, h⟩ => (az ad e).2.1 h⟩
  have oAB : OffA (rowOf A) B := ⟨fun bd e ⟨ad, e2, h⟩ => (az ad e2).2.2 bd e h⟩
  have odA : OffA (only zd) A := ⟨fun ad e h => (az ad e).1 h⟩
  have odr : OffB (only zd) zr := ⟨fun e => zz (e : zr = zd).symm⟩
  have odB : OffA (only zd) B := ⟨fun bd e h => (bz bd e).1 h⟩
  have aA : Above w0 (rowOf A) := ⟨fun x ⟨ad, e, h⟩ => by have := la.out ad e; omega⟩
  have ad_ : Above w0 (only zd) := ⟨fun x h => by have h' : x = zd := h; omega⟩
  clear hrise hup hl
  go_enter Tryz.func6, Tryz.ntmps6
  go_wp2_with (first | ((with_reducible apply (wpl_box_agg (dst := some 7))); (exact rfl); intro zp wzp _ _ _))
  have hzp : w.heap.size ≤ zp := Nat.le_of_eq (inferInstance : Born w zp).eq.symm
  have oAp : OffB (rowOf A) zp := ⟨fun ⟨ad, e, h⟩ => by have := ha.out.lt e; omega⟩
  have odp : OffB (only zd) zp := ⟨fun e => by have e' : zp = zd := e; omega⟩
  refine (wname_calls (strL nm) nm rfl _).mono ?_
  rw [h1]
  rintro e w5 ⟨rfl, _⟩
  go_wp2_with fail
  refine (wname_calls (strL hw) hw rfl _).mono ?_
  rw [h2]
  rintro e w6 ⟨rfl, _⟩
  have hd6 : HB w6 zd 50 #[.pointer (some ⟨zr, 0, none⟩), .slice A n c] := inferInstance
  have ha6 : HO w6 59 71 A n c (cellsOf L) := inferInstance
  go_wp2_with fail
  refine (placeE_calls nm (by have := HL.out; omega) (by have := HN.out; omega) HS.out).mono ?_
  rintro e w7 ⟨k, rfl, hp, st7⟩
  have hkn : k = n := by
    have h3 := hp.out.1
    have h4 := HL.out
    by_cases hk : k < n
    · have h5 := hp.out.2.2 k (Nat.le_refl _) (by omega)
      rw [HUP.out k (by omega)] at h5
      cases h5
    · omega
  subst hkn
  have hin : inE L nm k = false := by
    unfold inE
    rw [decide_eq_false (by have := HL.out; omega), Bool.false_and]
  rw [hin]
  have hd7 : HB w7 zd 50 #[.pointer (some ⟨zr, 0, none⟩), .slice A k c] := inferInstance
  have ha7 : HO w7 59 71 A k c (cellsOf L) := inferInstance
  have kbE := run_enr nm
  clear hin hp
  go_wp2_with (first | ((with_reducible apply wpl_build); (exact kbE _)) | ((with_reducible apply (stop_dst (dst := some 45))); (try simp only [Act.put, sA, sB, sC]); ((with_reducible apply (wpl_bslice (dst := some 45))); (exact run_bsE _ _); intro zb wb _ _ _)) | ((with_reducible apply wpl_loadcellN); (exact rfl); infer_instance; (exact rfl)))
  have hbs : HR wb (some ⟨zb, 0, none⟩) (cellsOf [EnrR.new nm]) := HB.cells inferInstance
  refine (insE_calls (EnrR.new nm) HL.out HN.out).mono ?_
  rintro e w8 ⟨A', c', rfl, st8, ha8, hg8, hc8⟩
  have hd8 : HB w8 zd 50 #[.pointer (some ⟨zr, 0, none⟩), .slice A k c] := inferInstance
  have hr8 : HB w8 zr 84 (rpL sd p0 p1 f g v (.slice B m d :: suf)).toArray := inferInstance
  have hb8 : HO w8 76 37 B m d (cellsOf T) := inferInstance
  have hp8 : HB w8 zp 26 (u8s pub.l) := inferInstance
  have nw8 : Nw w0 w8 := inferInstance
  have szb : w.heap.size ≤ wb.heap.size := (inferInstance : SzLe w wb).out
  have zpl := hp8.out.lt
  have zpb : zp < wb.heap.size := (inferInstance : HB wb zp 26 (u8s pub.l)).out.lt
  have hA' : ∀ ad, A' = some ad → A' = A ∨ ad.block = wb.heap.size := fun ad e => by
    rcases hg8.out with h9 | h9
    · exact .inl h9
    · rw [h9] at e
      injection e with e
      subst e
      exact .inr rfl
  have az' : ∀ ad, A' = some ad → ad.block ≠ zd ∧ ad.block ≠ zr ∧ ad.block ≠ zp ∧ (∀ bd, B = some bd → ad.block ≠ bd.block) ∧ w0.heap.size ≤ ad.block := fun ad e => by
    rcases hA' ad e with h9 | h9
    · rw [h9] at e
      have h10 := az ad e
      have h11 := ha.out.lt e
      have h12 := la.out ad e
      exact ⟨h10.1, h10.2.1, by omega, h10.2.2, h12⟩
    · refine ⟨by omega, by omega, by omega, fun bd e2 => ?_, ?_⟩
      · have := hb.out.lt e2
        omega
      · have := nw.out.size
        omega
  have oAd' : OffB (rowOf A') zd := ⟨fun ⟨ad, e, h⟩ => (az' ad e).1 h⟩
  have oAr' : OffB (rowOf A') zr := ⟨fun ⟨ad, e, h⟩ => (az' ad e).2.1 h⟩
  have oAp' : OffB (rowOf A') zp := ⟨fun ⟨ad, e, h⟩ => (az' ad e).2.2.1 h⟩
  have oAB' : OffA (rowOf A') B := ⟨fun bd e ⟨ad, e2, h⟩ => (az' ad e2).2.2.2.1 bd e h⟩
  have odA' : OffA (only zd) A' := ⟨fun ad e h => (az' ad e).1 h⟩
  have aA' : Above w0 (rowOf A') := ⟨fun x ⟨ad, e, h⟩ => by have := (az' ad e).2.2.2.2; omega⟩
  have HAZ := Lib.hid az'
  have hNA : ∀ ad, A' = some ad → A' = A ∨ w.heap.size ≤ ad.block := fun ad e => (hA' ad e).imp (fun h => h) (fun h => by omega)
  have HNA := Lib.hid hNA
  clear hd7 ha7 hA' az' hbs hNA
  go_wp2_with (first | ((with_reducible apply wpl_storecell); (exact rfl); (exact rfl); infer_instance; (exact rfl); (first | (with_reducible assumption) | omega | (focus (simp; done)) | (focus (simp; omega; done)) | decide); intro ws _ _))
  obtain ⟨w9, hw9⟩ : ∃ x : World, x = ws := ⟨_, rfl⟩
  subst hw9
  have hd9 : HB w9 zd 50 #[.pointer (some ⟨zr, 0, none⟩), .slice A' (k + 1) c'] := HB.row_eqD (w := w9) (g := zd) inferInstance rfl
  have ha9 : HO w9 59 71 A' (k + 1) c' (cellsOf (L ++ [EnrR.new nm])) := inferInstance
  have hr9 : HB w9 zr 84 (rpL sd p0 p1 f g v (.slice B m d :: suf)).toArray := inferInstance
  have hb9 : HO w9 76 37 B m d (cellsOf T) := inferInstance
  have hp9 : HB w9 zp 26 (u8s pub.l) := inferInstance
  have nw9 : Nw w0 w9 := inferInstance
  have c9 : Ch (eset zd A A') w w9 := inferInstance
  clear hd8 ha8 hr8 hb8 hp8 nw8 st8
  have hkl : k < (L ++ [EnrR.new nm]).length := by rw [List.length_append, HL.out]; exact Nat.lt_succ_self k
  have hg1 : gt (L ++ [EnrR.new nm]) k = EnrR.new nm := by rw [← HL.out]; exact gt_new L _
  have hset2 : ((L ++ [EnrR.new nm]).set k ((EnrR.new nm).setW hw)).set k (((EnrR.new nm).setW hw).setP pub) = L ++ [((EnrR.new nm).setW hw).setP pub] := by
    rw [List.set_set, List.set_append_right _ _ (by rw [HL.out]; exact Nat.le_refl _), HL.out, Nat.sub_self]
    rfl
  have hE1 : RowC.enc ((EnrR.new nm).setW hw) = (RowC.enc (gt (L ++ [EnrR.new nm]) k)).take 1 ++ [.string (strL hw)] ++ (RowC.enc (gt (L ++ [EnrR.new nm]) k)).drop (1 + 1) := by rw [hg1]; exact enc_setW _ _
  have hE2 : RowC.enc (((EnrR.new nm).setW hw).setP pub) = (RowC.enc (gt ((L ++ [EnrR.new nm]).set k ((EnrR.new nm).setW hw)) k)).take 2 ++ (u8s pub.l).toList ++ (RowC.enc (gt ((L ++ [EnrR.new nm]).set k ((EnrR.new nm).setW hw)) k)).drop (2 + 32) := by rw [gt_setE _ _ _ hkl]; exact enc_setP _ _
  have hkl2 : k < ((L ++ [EnrR.new nm]).set k ((EnrR.new nm).setW hw)).length := by rw [List.length_set]; exact hkl
  have hMl : (L ++ [EnrR.new nm]).length = k + 1 := by rw [List.length_append, HL.out]; rfl
  have hMl2 : ((L ++ [EnrR.new nm]).set k ((EnrR.new nm).setW hw)).length = k + 1 := by rw [List.length_set]; exact hMl
  have HE1 := Lib.hid hE1
  have HE2 := Lib.hid hE2
  have HG := Lib.hid hset2
  clear hg1 hset2 hE1 hE2
  refine wp_region_N ((rowOf A')) (by kernel_rfl) (fun wd _ _ => ?_)
  refine' takeH (i := 0) (v := _) rfl (by kernel_rfl) (by kernel_rfl) (by kernel_rfl) (fun _ _ _ h => h) (yields_of (by rfl) (fun w' _ => ?_)) inferInstance ?_
  rotate_left
  · (go_simp; try with_reducible rfl)
  try simp only [Act.put, sA]; try simp only [sB, sC]
  refine' takeH (i := 1) (v := _) rfl (by kernel_rfl) (by kernel_rfl) (by kernel_rfl) (fun _ _ _ h => h) (yields_of (by rfl) (fun w' _ => ?_)) inferInstance ?_
  rotate_left
  · (go_simp; try with_reducible rfl)
  try simp only [Act.put, sA]; try simp only [sB, sC]
  refine' takeH (i := 2) (v := _) rfl (by kernel_rfl) (by kernel_rfl) (by kernel_rfl) (fun _ _ _ h => h) (yields_of (by rfl) (fun w' _ => ?_)) inferInstance ?_
  rotate_left
  · (go_simp; try with_reducible rfl)
  try simp only [Act.put, sA]; try simp only [sB, sC]
  refine' takeH (i := 3) (v := _) rfl (by kernel_rfl) (by kernel_rfl) (by kernel_rfl) (fun _ _ _ h => h) (yields_of (by rfl) (fun w' _ => ?_)) inferInstance ?_
  rotate_left
  · ((with_reducible apply ev_loadcellN); (exact rfl); infer_instance; infer_instance; (exact rfl))
  try simp only [Act.put, sA]; try simp only [sB, sC]
  refine' takeH (i := 4) (v := _) rfl (by kernel_rfl) (by kernel_rfl) (by kernel_rfl) (fun _ _ _ h => h) (yields_of (by rfl) (fun w' _ => ?_)) inferInstance ?_
  rotate_left
  · (go_simp; try with_reducible rfl)
  try simp only [Act.put, sA]; try simp only [sB, sC]
  refine' takeH (i := 5) (v := _) rfl (by kernel_rfl) (by kernel_rfl) (by kernel_rfl) (fun _ _ _ h => h) (yields_of (by rfl) (fun w' _ => ?_)) inferInstance ?_
  rotate_left
  · (go_simp; try with_reducible rfl)
  try simp only [Act.put, sA]; try simp only [sB, sC]
  refine' takeH (i := 6) (v := _) rfl (by kernel_rfl) (by kernel_rfl) (by kernel_rfl) (fun _ _ _ h => h) (yields_of (by rfl) (fun w' _ => ?_)) inferInstance ?_
  rotate_left
  · (go_simp; try with_reducible rfl)
  try simp only [Act.put, sA]; try simp only [sB, sC]
  refine' takeH (i := 7) (v := _) rfl (by kernel_rfl) (by kernel_rfl) (by kernel_rfl) (fun _ _ _ h => h) (yields_of (by rfl) (fun w' _ => ?_)) inferInstance ?_
  rotate_left
  · (go_simp; try with_reducible rfl)
  try simp only [Act.put, sA]; try simp only [sB, sC]
  refine' takeH (i := 8) (v := _) rfl (by kernel_rfl) (by kernel_rfl) (by kernel_rfl) (fun _ _ _ h => h) (yields_of (by rfl) (fun w' _ => ?_)) inferInstance ?_
  rotate_left
  · ((with_reducible apply ev_loadcellN); (exact rfl); infer_instance; infer_instance; (exact rfl))
  try simp only [Act.put, sA]; try simp only [sB, sC]
  refine' takeH (i := 9) (v := _) rfl (by kernel_rfl) (by kernel_rfl) (by kernel_rfl) (fun _ _ _ h => h) (yields_of (by rfl) (fun w' _ => ?_)) inferInstance ?_
  rotate_left
  · (go_simp; try with_reducible rfl)
  try simp only [Act.put, sA]; try simp only [sB, sC]
  refine' takeH (i := 10) (v := _) rfl (by kernel_rfl) (by kernel_rfl) (by kernel_rfl) (fun _ _ _ h => h) (yields_of (by rfl) (fun w' _ => ?_)) inferInstance ?_
  rotate_left
  · (go_simp; try with_reducible rfl)
  try simp only [Act.put, sA]; try simp only [sB, sC]
  refine' takeH (i := 11) (v := _) rfl (by kernel_rfl) (by kernel_rfl) (by kernel_rfl) (fun _ _ _ h => h) (yields_of (by rfl) (fun w' _ => ?_)) inferInstance ?_
  rotate_left
  · ((with_reducible apply ev_loadrow); (exact rfl); infer_instance; infer_instance; (first | (with_reducible assumption) | (with_reducible exact H32.size _) | (with_reducible exact enc_sz _ rfl) | kernel_rfl))
  try simp only [Act.put, sA]; try simp only [sB, sC]
  refine goH (i := 12) (by kernel_rfl) rfl (fun K_ hK_ => ?_)
  rw [if_pos (by kernel_rfl)]
  refine wpr_of_list ?_
  (first | ((with_reducible apply (wpl_storeC (α := EnrR) (k := k) (j := 1) (s := 71))); (exact rfl); (exact rfl); infer_instance; infer_instance; (exact rfl); (exact rfl); (exact hkl); (decide); (exact HE1.out); intro wx stx hax) | ((with_reducible apply (wpl_storeQ (α := EnrR) (k := k) (j := 2) (s := 71) (m := 32))); (exact rfl); (exact rfl); (exact hax); infer_instance; (exact H32.size _); (decide); (exact (u8s_one _)); (exact rfl); (exact hkl2); (decide); (exact HE2.out); intro wy sty hay) | ((with_reducible apply wpl_indexH); (exact rfl); (exact rfl); infer_instance; infer_instance; (first | (with_reducible assumption) | omega); (first | (with_reducible assumption) | omega); (first | (with_reducible assumption) | omega)) | ((with_reducible apply wpl_indexH'); (exact rfl); (exact rfl); infer_instance; infer_instance; (first | (with_reducible assumption) | omega); (first | (with_reducible assumption) | omega); (first | (with_reducible assumption) | omega)) | ((with_reducible apply (wpl_indexE (α := EnrR) (t := 48))); (exact rfl); (exact rfl); infer_instance; infer_instance; (first | (with_reducible assumption) | omega | (focus (simp; done)) | (focus (simp; omega; done)) | decide); (exact rfl); (decide); (first | (with_reducible assumption) | omega | (focus (simp; done)) | (focus (simp; omega; done)) | decide)) | ((with_reducible apply (wpl_indexE0 (α := EnrR) (t := 48))); (exact rfl); infer_instance; infer_instance; (first | (with_reducible assumption) | omega | (focus (simp; done)) | (focus (simp; omega; done)) | decide); (exact rfl); (decide); (first | (with_reducible assumption) | omega | (focus (simp; done)) | (focus (simp; omega; done)) | decide)))
  refine wpList_nil ?_
  unfold onlyN
  refine hK_.out _ _ inferInstance (fun _ => ?_)
  clear hK_ K_
  try simp only [Act.put, sA]; try simp only [sB, sC]
  refine goH (i := 13) (by kernel_rfl) rfl (fun K_ hK_ => ?_)
  rw [if_pos (by kernel_rfl)]
  refine wpr_of_list ?_
  (first | ((with_reducible apply (wpl_storeC (α := EnrR) (k := k) (j := 1) (s := 71))); (exact rfl); (exact rfl); infer_instance; infer_instance; (exact rfl); (exact rfl); (exact hkl); (decide); (exact HE1.out); intro wx stx hax) | ((with_reducible apply (wpl_storeQ (α := EnrR) (k := k) (j := 2) (s := 71) (m := 32))); (exact rfl); (exact rfl); (exact hax); infer_instance; (exact H32.size _); (decide); (exact (u8s_one _)); (exact rfl); (exact hkl2); (decide); (exact HE2.out); intro wy sty hay) | ((with_reducible apply (wpl_fieldE (t := 59))); (exact Tryz.underlying59); (exact rfl); (kernel_rfl); (exact rfl); infer_instance; (exact cells_pos (by decide) (by omega))))
  refine wpList_nil ?_
  unfold onlyN
  refine hK_.out _ _ inferInstance (fun _ => ?_)
  clear hK_ K_
  try simp only [Act.put, sA]; try simp only [sB, sC]
  refine goH (i := 14) (by kernel_rfl) rfl (fun K_ hK_ => ?_)
  rw [if_pos (by kernel_rfl)]
  refine wpr_of_list ?_
  (first | ((with_reducible apply (wpl_storeC (α := EnrR) (k := k) (j := 1) (s := 71))); (exact rfl); (exact rfl); infer_instance; infer_instance; (exact rfl); (exact rfl); (exact hkl); (decide); (exact HE1.out); intro wx stx hax) | ((with_reducible apply (wpl_storeQ (α := EnrR) (k := k) (j := 2) (s := 71) (m := 32))); (exact rfl); (exact rfl); (exact hax); infer_instance; (exact H32.size _); (decide); (exact (u8s_one _)); (exact rfl); (exact hkl2); (decide); (exact HE2.out); intro wy sty hay) | ((with_reducible apply wpl_storerow); (exact rfl); (exact rfl); infer_instance; infer_instance; (first | (with_reducible assumption) | (with_reducible exact H32.size _) | (with_reducible exact enc_sz _ rfl) | kernel_rfl); (first | (with_reducible assumption) | (with_reducible exact H32.size _) | (with_reducible exact enc_sz _ rfl) | kernel_rfl); (first | (with_reducible exact u8s_one _) | (with_reducible assumption) | (with_reducible exact enc_one _) | kernel_rfl); intro ws _ _) | ((with_reducible apply wpl_storecell); (exact rfl); (exact rfl); infer_instance; (exact rfl); (first | (with_reducible assumption) | omega | (focus (simp; done)) | (focus (simp; omega; done)) | decide); intro ws _ _) | ((with_reducible apply (wpl_storehash (t := 26))); (exact rfl); (exact rfl); infer_instance; infer_instance; (first | (with_reducible assumption) | omega | (focus (simp; done)) | (focus (simp; omega; done)) | decide); intro ws _ _) | ((with_reducible apply (wpl_storebyteH (t := 5))); (exact rfl); (exact rfl); infer_instance; (first | (with_reducible assumption) | omega); (first | (with_reducible assumption) | omega); (first | (constructor <;> omega) | exact xor_u8_in _ _); intro ws _ _) | ((with_reducible apply (wpl_storeint (t := 3))); (exact rfl); (exact rfl); infer_instance; (first | (with_reducible assumption) | omega); intro ws _ _) | ((with_reducible apply (wpl_storebyte (t := 5))); (exact rfl); (exact rfl); infer_instance; (first | (with_reducible assumption) | omega | (focus (simp; done)) | (focus (simp; omega; done)) | decide); (constructor <;> omega); intro ws _ _))
  refine wpList_nil ?_
  unfold onlyN
  refine hK_.out _ _ inferInstance (fun _ => ?_)
  clear hK_ K_
  try simp only [Act.put]
  refine goH (i := 15) (by kernel_rfl) rfl (fun K_ hK_ => ?_)
  rw [if_pos (by kernel_rfl)]
  refine wpr_of_list ?_
  (first | ((with_reducible apply (wpl_storeC (α := EnrR) (k := k) (j := 1) (s := 71))); (exact rfl); (exact rfl); infer_instance; infer_instance; (exact rfl); (exact rfl); (exact hkl); (decide); (exact HE1.out); intro wx stx hax) | ((with_reducible apply (wpl_storeQ (α := EnrR) (k := k) (j := 2) (s := 71) (m := 32))); (exact rfl); (exact rfl); (exact hax); infer_instance; (exact H32.size _); (decide); (exact (u8s_one _)); (exact rfl); (exact hkl2); (decide); (exact HE2.out); intro wy sty hay) | ((with_reducible apply wpl_indexH); (exact rfl); (exact rfl); infer_instance; infer_instance; (first | (with_reducible assumption) | omega); (first | (with_reducible assumption) | omega); (first | (with_reducible assumption) | omega)) | ((with_reducible apply wpl_indexH'); (exact rfl); (exact rfl); infer_instance; infer_instance; (first | (with_reducible assumption) | omega); (first | (with_reducible assumption) | omega); (first | (with_reducible assumption) | omega)) | ((with_reducible apply (wpl_indexE (α := EnrR) (t := 48))); (exact rfl); (exact rfl); infer_instance; infer_instance; (first | (with_reducible assumption) | omega | (focus (simp; done)) | (focus (simp; omega; done)) | decide); (exact rfl); (decide); (first | (with_reducible assumption) | omega | (focus (simp; done)) | (focus (simp; omega; done)) | decide)) | ((with_reducible apply (wpl_indexE0 (α := EnrR) (t := 48))); (exact rfl); infer_instance; infer_instance; (first | (with_reducible assumption) | omega | (focus (simp; done)) | (focus (simp; omega; done)) | decide); (exact rfl); (decide); (first | (with_reducible assumption) | omega | (focus (simp; done)) | (focus (simp; omega; done)) | decide)))
  refine wpList_nil ?_
  unfold onlyN
  refine hK_.out _ _ inferInstance (fun _ => ?_)
  clear hK_ K_
  try simp only [Act.put, sA]; try simp only [sB, sC]
  refine goH (i := 16) (by kernel_rfl) rfl (fun K_ hK_ => ?_)
  rw [if_pos (by kernel_rfl)]
  refine wpr_of_list ?_
  (first | ((with_reducible apply (wpl_storeC (α := EnrR) (k := k) (j := 1) (s := 71))); (exact rfl); (exact rfl); infer_instance; infer_instance; (exact rfl); (exact rfl); (exact hkl); (decide); (exact HE1.out); intro wx stx hax) | ((with_reducible apply (wpl_storeQ (α := EnrR) (k := k) (j := 2) (s := 71) (m := 32))); (exact rfl); (exact rfl); (exact hax); infer_instance; (exact H32.size _); (decide); (exact (u8s_one _)); (exact rfl); (exact hkl2); (decide); (exact HE2.out); intro wy sty hay) | ((with_reducible apply (wpl_fieldE (t := 59))); (exact Tryz.underlying59); (exact rfl); (kernel_rfl); (exact rfl); infer_instance; (exact cells_pos (by decide) (by omega))))
  refine wpList_nil ?_
  unfold onlyN
  refine hK_.out _ _ inferInstance (fun _ => ?_)
  clear hK_ K_
  try simp only [Act.put, sA]; try simp only [sB, sC]
  refine goH (i := 17) (by kernel_rfl) rfl (fun K_ hK_ => ?_)
  rw [if_pos (by kernel_rfl)]
  refine wpr_of_list ?_
  (first | ((with_reducible apply (wpl_storeC (α := EnrR) (k := k) (j := 1) (s := 71))); (exact rfl); (exact rfl); infer_instance; infer_instance; (exact rfl); (exact rfl); (exact hkl); (decide); (exact HE1.out); intro wx stx hax) | ((with_reducible apply (wpl_storeQ (α := EnrR) (k := k) (j := 2) (s := 71) (m := 32))); (exact rfl); (exact rfl); (exact hax); infer_instance; (exact H32.size _); (decide); (exact (u8s_one _)); (exact rfl); (exact hkl2); (decide); (exact HE2.out); intro wy sty hay) | ((with_reducible apply wpl_storerow); (exact rfl); (exact rfl); infer_instance; infer_instance; (first | (with_reducible assumption) | (with_reducible exact H32.size _) | (with_reducible exact enc_sz _ rfl) | kernel_rfl); (first | (with_reducible assumption) | (with_reducible exact H32.size _) | (with_reducible exact enc_sz _ rfl) | kernel_rfl); (first | (with_reducible exact u8s_one _) | (with_reducible assumption) | (with_reducible exact enc_one _) | kernel_rfl); intro ws _ _) | ((with_reducible apply wpl_storecell); (exact rfl); (exact rfl); infer_instance; (exact rfl); (first | (with_reducible assumption) | omega | (focus (simp; done)) | (focus (simp; omega; done)) | decide); intro ws _ _) | ((with_reducible apply (wpl_storehash (t := 26))); (exact rfl); (exact rfl); infer_instance; infer_instance; (first | (with_reducible assumption) | omega | (focus (simp; done)) | (focus (simp; omega; done)) | decide); intro ws _ _) | ((with_reducible apply (wpl_storebyteH (t := 5))); (exact rfl); (exact rfl); infer_instance; (first | (with_reducible assumption) | omega); (first | (with_reducible assumption) | omega); (first | (constructor <;> omega) | exact xor_u8_in _ _); intro ws _ _) | ((with_reducible apply (wpl_storeint (t := 3))); (exact rfl); (exact rfl); infer_instance; (first | (with_reducible assumption) | omega); intro ws _ _) | ((with_reducible apply (wpl_storebyte (t := 5))); (exact rfl); (exact rfl); infer_instance; (first | (with_reducible assumption) | omega | (focus (simp; done)) | (focus (simp; omega; done)) | decide); (constructor <;> omega); intro ws _ _))
  refine wpList_nil ?_
  unfold onlyN
  refine hK_.out _ _ inferInstance (fun _ => ?_)
  clear hK_ K_
  try simp only [Act.put]
  refine wpAnyH_done (by kernel_rfl) ?_ _
  all_goals
    have hfin : HO wy 59 71 A' (k + 1) c' (cellsOf (L ++ [((EnrR.new nm).setW hw).setP pub])) := by
      rw [← HG.out]
      exact hay
    have hdf : HB wy zd 50 #[.pointer (some ⟨zr, 0, none⟩), .slice A' (k + 1) c'] := inferInstance
    have hrf : HB wy zr 84 (rpL sd p0 p1 f g v (.slice B m d :: suf)).toArray := inferInstance
    have hbf : HO wy 76 37 B m d (cellsOf T) := inferInstance
    have nwf : Nw w0 wy := inferInstance
    go_wp2_with fail
    go_ret
    exact ⟨A', c', rfl, nwf, stepC, HNA.out, hdf, hfin, (by rw [List.length_append, HL.out]; rfl), hrf, hbf, hm, hs, zz, (fun ad e => ⟨(HAZ.out ad e).1, (HAZ.out ad e).2.1, (HAZ.out ad e).2.2.2.1⟩), bz, ld, lr, ⟨fun ad e => (HAZ.out ad e).2.2.2.2⟩, lb⟩
set_option maxRecDepth 100000 in
theorem enrNew_calls {w0 w : World} {zd zr : Nat} {s : DS} [nw : Nw w0 w] (D : DrAt w0 w zd zr s) (nm hw : List UInt8) (pub : H32) (h1 : nameL nm = true) (h2 : nameL hw = true) (hrise : RiseE s.L) (hup : ∀ k, k < s.L.length → Op.bytesLess (gt s.L k).l nm = true) (hroom : s.n < 4) :
    Calls Tryz.prog 6 #[.pointer (some ⟨zd, 0, none⟩), .string (strL nm), .string (strL hw), .agg (u8s pub.l)] w fun e w' => ∃ A' c', e = .returned (.int .i64 0) ∧ Nw w0 w' ∧ DrAt w0 w' zd zr ⟨A', s.n + 1, c', s.L ++ [((EnrR.new nm).setW hw).setP pub], s.sd, s.p0, s.p1, s.f, s.g, s.v, s.suf, s.B, s.m, s.d, s.T⟩ := by
  refine (enrNewC_calls D nm hw pub h1 h2 hrise hup hroom).mono ?_
  rintro e w' ⟨A', c', h, nw, _, _, D'⟩
  exact ⟨A', c', h, nw, D'⟩
end Go.Proofs.YtmnapacibpnodaaGreat
end
section
open Go Go.RowKit
namespace Go.Proofs.YtmnapacibpnodaaGreat
def zeroTR : TargetR := ⟨[], 0, zeroH, [], 0, []⟩
theorem run_zeroT (w : World) : (Instr.build 76 #[]).run Tryz.prog w = .ok (.agg (RowC.enc zeroTR).toArray) w := by kernel_rfl
def asgd (T : List TargetR) (nm : List UInt8) : Option TargetR := T.find? (fun t => decide (t.ecu = nm))
def asgT (T : List TargetR) (nm : List UInt8) : TargetR := (asgd T nm).getD zeroTR
theorem asgd_at (T : List TargetR) (nm : List UInt8) (k : Nat) (hk : k < T.length) (hno : ∀ i, i < k → (gt T i).ecu ≠ nm) (h : (gt T k).ecu = nm) : asgd T nm = some (gt T k) := by
  have e : ∀ i (hi : i < T.length), gt T i = T[i] := fun i hi => by simp [gt, List.getD_eq_getElem?_getD, hi]
  rw [asgd, List.find?_eq_some_iff_getElem]
  refine ⟨decide_eq_true h, k, hk, (e k hk).symm, fun j hj => ?_⟩
  have := hno j hj
  rw [e j (by omega)] at this
  simpa using this
theorem asgd_no (T : List TargetR) (nm : List UInt8) (hno : ∀ i, i < T.length → (gt T i).ecu ≠ nm) : asgd T nm = none := by
  have e : ∀ i (hi : i < T.length), gt T i = T[i] := fun i hi => by simp [gt, List.getD_eq_getElem?_getD, hi]
  rw [asgd, List.find?_eq_none]
  intro x hx
  obtain ⟨i, hi, rfl⟩ := List.getElem_of_mem hx
  have := hno i hi
  rw [e i hi] at this
  simpa using this
set_option maxRecDepth 100000 in
set_option maxHeartbeats 3200000 in
theorem assigned_calls {zd zr : Nat} {vv : Value} {sd f : H32} {p0 p1 : Value} {g v : Int} {suf : List Value} {B : Option Addr} {m d : Nat} {T : List TargetR} {w : World} (nm : List UInt8) [hd : HB w zd 50 #[.pointer (some ⟨zr, 0, none⟩), vv]] [hr : HB w zr 84 (rpL sd p0 p1 f g v (.slice B m d :: suf)).toArray] [hb : HO w 76 37 B m d (cellsOf T)] (hm : T.length = m) (hmax : m ≤ 1000000) :
    Calls Tryz.prog 48 #[.pointer (some ⟨zd, 0, none⟩), .string (strL nm)] w fun e w' => e = .returned (.tuple #[.agg (RowC.enc (asgT T nm)).toArray, .bool (asgd T nm).isSome]) ∧ Step nowhere w w' := by
  have hsz0 : zeroTg.size = 37 := rfl
  have hm9 : m ≤ 9223372036854775807 := by omega
  go_enter Tryz.func48, Tryz.ntmps48
  go_wp2_with (first | ((with_reducible apply (wpl_alloc (dst := some 4))); intro zo wzo _ _ _))
  have hzow : w.heap.size ≤ zo := Nat.le_of_eq (inferInstance : Born w zo).eq.symm
  refine dirRepo_calls.mono ?_
  rintro e w5 ⟨rfl, rfl⟩
  go_wp2_with fail
  refine (targetsR_calls hm hmax).mono ?_
  rintro e w6 ⟨A', c', rfl, st6, hr6, hn6⟩
  have ho6 : HB w6 zo 76 zeroTg := inferInstance
  have nw6 : Nw w w6 := inferInstance
  go_wp2_with fail
  go_loopw [12] (fun iv wr => ∃ k : Nat, k ≤ m ∧ iv = .int .i64 (k : Int) ∧ Hid (∀ i, i < k → (gt T i).ecu ≠ nm) ∧ Step nowhere w6 wr) (fun iv _ => m - (intOf iv).toNat)
  case atStart => exact ⟨0, Nat.zero_le _, rfl, Lib.hid (fun i h => by omega), stepN⟩
  case round =>
    obtain ⟨k, hk, rfl, HJ, st⟩ := hrel
    have nr : Nw w6 wr := ⟨st.chg⟩
    have hrw : HR wr A' (cellsOf T) := ⟨hr6.out.later st.chg⟩
    have how : HB wr zo 76 zeroTg := inferInstance
    have nww : Nw w wr := inferInstance
    by_cases hlt : k < m
    · have hltI : (k : Int) < m := by omega
      have hkl : k < T.length := by omega
      have hszk : (RowC.enc (gt T k)).toArray.size = 37 := tgR_len _
      have honk := enc_one (gt T k)
      by_cases hE : (gt T k).ecu = nm
      · have hq : ((strL (gt T k).ecu).toList == (strL nm).toList) = true := by rw [strL_list, strL_list, hE]; simp
        have HF : Hid (asgd T nm = some (gt T k)) := Lib.hid (asgd_at T nm k hkl HJ.out hE)
        clear hE
        go_wp2_with (first | ((with_reducible apply (stop_dst (dst := some 17))); (with_reducible apply (wpl_loadcellN (k := 36))); (exact rfl); infer_instance; (exact tgc_36 _)) | ((with_reducible apply (wpl_alloc (dst := some 7))); intro z7 wz7 _ _ _) | ((with_reducible apply wpl_loadrow); (exact rfl); infer_instance; infer_instance; (first | (with_reducible assumption) | (with_reducible exact H32.size _) | (with_reducible exact enc_sz _ rfl) | kernel_rfl)) | ((with_reducible apply wpl_storerow); (exact rfl); (exact rfl); infer_instance; infer_instance; (first | (with_reducible assumption) | (with_reducible exact H32.size _) | (with_reducible exact enc_sz _ rfl) | kernel_rfl); (first | (with_reducible assumption) | (with_reducible exact H32.size _) | (with_reducible exact enc_sz _ rfl) | kernel_rfl); (first | (with_reducible exact u8s_one _) | (with_reducible assumption) | (with_reducible exact enc_one _) | kernel_rfl); intro ws _ _) | ((with_reducible apply (wpl_indexE (α := TargetR) (t := 79))); (exact rfl); (exact rfl); infer_instance; infer_instance; (first | (with_reducible assumption) | omega | (focus (simp; done)) | (focus (simp; omega; done)) | decide); (exact rfl); (decide); (first | (with_reducible assumption) | omega | (focus (simp; done)) | (focus (simp; omega; done)) | decide)) | ((with_reducible apply (wpl_loadE (α := TargetR) (t := 76))); infer_instance; (exact rfl); infer_instance; (exact rfl); (decide); (first | (with_reducible assumption) | omega | (focus (simp; done)) | (focus (simp; omega; done)) | decide)))
        refine ret_row_ rfl rfl rfl (n := 37) hszk rfl ⟨?_, stepN⟩
        rw [asgT, HF.out]
        rfl
      · have hq : ((strL (gt T k).ecu).toList == (strL nm).toList) = false := by rw [strL_list, strL_list]; simpa using hE
        have HE := Lib.hid hE
        clear hE
        go_wp2_with (first | ((with_reducible apply (stop_dst (dst := some 17))); (with_reducible apply (wpl_loadcellN (k := 36))); (exact rfl); infer_instance; (exact tgc_36 _)) | ((with_reducible apply (wpl_alloc (dst := some 7))); intro z7 wz7 _ _ _) | ((with_reducible apply wpl_storerow); (exact rfl); (exact rfl); infer_instance; infer_instance; (first | (with_reducible assumption) | (with_reducible exact H32.size _) | (with_reducible exact enc_sz _ rfl) | kernel_rfl); (first | (with_reducible assumption) | (with_reducible exact H32.size _) | (with_reducible exact enc_sz _ rfl) | kernel_rfl); (first | (with_reducible exact u8s_one _) | (with_reducible assumption) | (with_reducible exact enc_one _) | kernel_rfl); intro ws _ _) | ((with_reducible apply (wpl_indexE (α := TargetR) (t := 79))); (exact rfl); (exact rfl); infer_instance; infer_instance; (first | (with_reducible assumption) | omega | (focus (simp; done)) | (focus (simp; omega; done)) | decide); (exact rfl); (decide); (first | (with_reducible assumption) | omega | (focus (simp; done)) | (focus (simp; omega; done)) | decide)) | ((with_reducible apply (wpl_loadE (α := TargetR) (t := 76))); infer_instance; (exact rfl); infer_instance; (exact rfl); (decide); (first | (with_reducible assumption) | omega | (focus (simp; done)) | (focus (simp; omega; done)) | decide)))
        refine ⟨⟨k + 1, by omega, by go_num, Lib.hid (fun i hi => ?_), stepN⟩, by simp [intOf]; omega⟩
        by_cases e : i = k
        · subst e; exact HE.out
        · exact HJ.out i (by omega)
    · have hltI : ¬ (k : Int) < m := by omega
      have HF : Hid (asgd T nm = none) := Lib.hid (asgd_no T nm (fun i hi => HJ.out i (by omega)))
      have hsz9 : (RowC.enc zeroTR).toArray.size = 37 := tgR_len _
      have hon9 := enc_one zeroTR
      go_wp2_with (first | ((with_reducible apply wpl_build); (exact run_zeroT _)) | ((with_reducible apply wpl_storerow); (exact rfl); (exact rfl); infer_instance; infer_instance; (first | (with_reducible assumption) | (with_reducible exact H32.size _) | (with_reducible exact enc_sz _ rfl) | kernel_rfl); (first | (with_reducible assumption) | (with_reducible exact H32.size _) | (with_reducible exact enc_sz _ rfl) | kernel_rfl); (first | (with_reducible exact u8s_one _) | (with_reducible assumption) | (with_reducible exact enc_one _) | kernel_rfl); intro ws _ _))
      refine ret_row_ rfl rfl rfl (n := 37) hsz9 rfl ⟨?_, stepN⟩
      rw [asgT, HF.out]
      rfl
end Go.Proofs.YtmnapacibpnodaaGreat
end
