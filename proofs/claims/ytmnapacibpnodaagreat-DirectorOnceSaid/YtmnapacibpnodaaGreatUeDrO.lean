/- DrO -/
import Derived.Test.YtmnapacibpnodaaGreatUeDrD
import Derived.Test.YtmnapacibpnodaaGreatUeTkM
import Derived.Test.YtmnapacibpnodaaGreatUeWyQ
import Derived.Test.YtmnapacibpnodaaGreatUeQmF
open Go Go.RowKit
namespace Go.Proofs.YtmnapacibpnodaaGreat
section
variable {P : Program} {ops : Array Oper} {rest : List Oper} {a : Act} {w : World} {Q : Exit → Act → World → Prop} {dst : Option Tmp} {ty : TypeId} {pos : String} {after : Array Edge} {gd : Option (Nat × Bool)}
theorem ev_loadF2 {α : Type} [RowC α] {t : TypeId} {x : Operand} {A : Option Addr} {k i j s : Nat} (ht : CellT P t) (hx : a.eval x = ptrOf A (k * s + i + j)) {l : List α} (hr : HR w A (cellsOf l)) (hs : RowC.size α = s) (hk : k < l.length) {v : Value} (hv : nth (RowC.enc (gt l k)) (i + j) = some v) :
    (execOp a.eval ⟨dst, .load t x, ty, pos, after, gd⟩).run P w = .ok (.value v) w := ev_loadF (j := i + j) ht (by rw [hx, Nat.add_assoc]) hr hs hk hv
/-- an element's address is no nil -/
theorem ev_nilR {x : Operand} {A : Option Addr} {k : Nat} (hx : a.eval x = ptrOf A k) (hA : ∃ ad, A = some ad) :
    (execOp a.eval ⟨dst, .nilCheck x, ty, pos, after, gd⟩).run P w = .ok (.value (ptrOf A k)) w := by
  obtain ⟨ad, rfl⟩ := hA
  rw [show (execOp a.eval ⟨dst, .nilCheck x, ty, pos, after, gd⟩) = execOp (fun _ => ptrOf (some ad) k) ⟨dst, .nilCheck x, ty, pos, after, gd⟩ by unfold execOp; simp only [hx]]
  rfl
theorem wpl_nilR {x : Operand} {A : Option Addr} {k : Nat} (hx : a.eval x = ptrOf A k) (hA : ∃ ad, A = some ad) (h : wpList P ops Q rest (a.put dst (ptrOf A k)) w) : wpList P ops Q (⟨dst, .nilCheck x, ty, pos, after, none⟩ :: rest) a w := wpl_of_run rfl (ev_nilR hx hA) h
end
def RepR.l (p : RepR) : List Value := repL p.u p.n p.h p.c p.k
/-- a tail: whether one has reported, and what -/
def tlR (q : Bool) (p : RepR) : List Value := .bool q :: p.l
theorem repl_len (p : RepR) : p.l.length = 36 := by simp [RepR.l, repL, bs_length]
theorem repl_one (p : RepR) : ∀ u ∈ p.l, u.oneCell' = true := by
  intro u hu
  rcases List.mem_cons.1 hu with rfl | hu
  · rfl
  rcases List.mem_cons.1 hu with rfl | hu
  · rfl
  rcases List.mem_append.1 hu with h | h
  · exact bs_one p.h.l u h
  · simp only [List.mem_cons, List.not_mem_nil, or_false] at h
    rcases h with rfl | rfl <;> rfl
theorem tlR_one (q : Bool) (p : RepR) : ∀ u ∈ tlR q p, u.oneCell' = true := by
  intro u hu
  rcases List.mem_cons.1 hu with rfl | hu
  · rfl
  · exact repl_one p u hu
def EnrR.setT (r : EnrR) (q : Bool) (p : RepR) : EnrR := ⟨r.l, r.hw, r.pub, tlR q p, by rw [tlR, List.length_cons, repl_len], tlR_one q p⟩
theorem enr_drop (r : EnrR) : (RowC.enc r).drop 34 = r.tl := by
  show (bs r.pub.l ++ r.tl).drop 32 = r.tl
  exact List.drop_left' (bsl r.pub)
theorem enr_take (r : EnrR) : (RowC.enc r).take 34 = .string (strL r.l) :: .string (strL r.hw) :: bs r.pub.l := by
  show (Value.string (strL r.l) :: .string (strL r.hw) :: (bs r.pub.l ++ r.tl)).take 34 = _
  rw [List.take_succ_cons, List.take_succ_cons, List.take_left' (bsl r.pub)]
theorem enr_pub (r : EnrR) : ((RowC.enc r).drop 2).take 32 = bs r.pub.l := by
  show (bs r.pub.l ++ r.tl).take 32 = _
  exact List.take_left' (bsl r.pub)
theorem enr_nth (r : EnrR) (j : Nat) : nth (RowC.enc r) (34 + j) = nth r.tl j := by
  rw [← nth_get, ← nth_get, ← enr_drop r, List.getElem?_drop]
theorem enr_34 {r : EnrR} {q : Bool} {p : RepR} (h : r.tl = tlR q p) : nth (RowC.enc r) 34 = some (.bool q) := by
  rw [show 34 = 34 + 0 from rfl, enr_nth, h]
  rfl
theorem enr_70 {r : EnrR} {q : Bool} {p : RepR} (h : r.tl = tlR q p) : nth (RowC.enc r) 70 = some (.int .i64 p.k) := by
  rw [show 70 = 34 + 36 from rfl, enr_nth, h]
  show nth (Value.bool q :: p.l) (35 + 1) = _
  exact rep_at35 p.u p.n p.h p.c p.k
theorem enc_setT (r : EnrR) (q : Bool) (p : RepR) : RowC.enc (r.setT q p) = (RowC.enc r).take 34 ++ tlR q p := by rw [enr_take]; rfl
theorem enc_setT1 {r : EnrR} {q : Bool} {p : RepR} (h : r.tl = tlR q p) : RowC.enc (r.setT true p) = (RowC.enc r).take 34 ++ [.bool true] ++ (RowC.enc r).drop (34 + 1) := by
  rw [← List.drop_drop, enr_drop, h, enc_setT]
  simp [tlR]
theorem enc_setT2 (r : EnrR) (p p' : RepR) : RowC.enc (r.setT true p') = (RowC.enc (r.setT true p)).take 35 ++ p'.l.toArray.toList ++ (RowC.enc (r.setT true p)).drop (35 + 36) := by
  have h1 : (RowC.enc (r.setT true p)).drop 71 = [] := List.drop_eq_nil_of_le (Nat.le_of_eq (enR_len _))
  have h2 : (RowC.enc (r.setT true p)).take 35 = (RowC.enc r).take 34 ++ [.bool true] := by
    have h3 : ((RowC.enc r).take 34).length = 34 := by
      rw [List.length_take]
      have : (RowC.enc r).length = 71 := enR_len r
      omega
    rw [enc_setT, tlR, List.take_append, h3]
    simp [List.take_take]
  rw [h1, h2, enc_setT, tlR]
  simp
def DS.setL (s : DS) (L : List EnrR) : DS := ⟨s.A, s.n, s.c, L, s.sd, s.p0, s.p1, s.f, s.g, s.v, s.suf, s.B, s.m, s.d, s.T⟩
/-- what is told of a report -/
def repOf (b : List UInt8) : RepR := ⟨strL (rU (kindS 5 b)), strL (rN (kindS 5 b)), rH (kindS 5 b), rC (kindS 5 b), rK (kindS 5 b)⟩
def accE (met old : Bool) : Int := if met then (if old then 5 else 0) else 4
def accL (L : List EnrR) (k : Nat) (p : RepR) (met old : Bool) : List EnrR := if met && !old then L.set k ((gt L k).setT true p) else L
set_option maxRecDepth 100000 in
set_option maxHeartbeats 6400000 in
theorem accept_calls {w0 w : World} {zd zr : Nat} {s : DS} [nw : Nw w0 w] (D : DrAt w0 w zd zr s) {M A2 : Option Addr} {b : List UInt8} {nb cb n2 c2 : Nat} {l : List MarkR} [hM : HR w M (bs b)] [hA2 : HR w A2 (cellsOf l)] (hMI : ∀ r ∈ l, MarkIn w r) (hl2 : l.length = n2) (hc2 : n2 ≤ c2) (hmax2 : n2 ≤ 9223372036854775807) (hlm : b.length = nb) (hcap : nb ≤ cb) (hn : nb ≤ 1000000) (hok : rOk b = true) (hrise : RiseE s.L) (k : Nat) (hkl : k < s.L.length) (hkn : (gt s.L k).l = rU (kindS 5 b)) (hmax : s.n ≤ 1000000) (q : Bool) (p : RepR) (htl : (gt s.L k).tl = tlR q p) (met old : Bool) (hmet : meetsB b l [(gt s.L k).pub] 1 = met) (hold : (q && decide ((repOf b).k ≤ p.k)) = old) :
    Calls Tryz.prog 8 #[.pointer (some ⟨zd, 0, none⟩), .agg #[.slice M nb cb, .slice A2 n2 c2]] w fun e w' => e = .returned (.int .i64 (accE met old)) ∧ Nw w0 w' ∧ Step (rowOf s.A) w w' ∧ DrAt w0 w' zd zr (s.setL (accL s.L k (repOf b) met old)) := by
  obtain ⟨A, n, c, L, sd, p0, p1, f, g, v, suf, B, m, d, T⟩ := s
  obtain ⟨hd, ha, hl, hr, hb, hm, hs, zz, az, bz, ld, lr, la, lb⟩ := D
  dsimp only at hd ha hl hr hb hm hs az bz la lb
  dsimp only at hrise hkl hkn hmax htl hmet
  obtain ⟨P, hP⟩ : ∃ P, P = repOf b := ⟨_, rfl⟩
  have hD : repD b = (repL P.u P.n P.h P.c P.k).toArray := by rw [hP]; rfl
  have hPu : P.u = strL (rU (kindS 5 b)) := by rw [hP]; rfl
  obtain ⟨U, hU⟩ : ∃ U, U = rU (kindS 5 b) := ⟨_, rfl⟩
  rw [← hP] at hold
  rw [← hU] at hkn hPu
  obtain ⟨pub, hpub⟩ : ∃ x, x = (gt L k).pub := ⟨_, rfl⟩
  rw [← hpub] at hmet
  have hep : ((RowC.enc (gt L k)).drop 2).take 32 = bs pub.l := by rw [hpub]; exact enr_pub _
  have HS := Lib.hid hrise
  have HL := Lib.hid hl
  have HN := Lib.hid hmax
  have HKN := Lib.hid hkn
  have HEP := Lib.hid hep
  have HE34 := Lib.hid (enr_34 htl)
  have HE70 := Lib.hid (enr_70 htl)
  have HTL := Lib.hid htl
  have HMET := Lib.hid hmet
  have HOLD := Lib.hid hold
  have HLM := Lib.hid hlm
  have HL2 := Lib.hid hl2
  have HMI := Lib.hid hMI
  have HD := Lib.hid hD
  have HOK := Lib.hid hok
  have HPU := Lib.hid hPu
  have HP := Lib.hid hP
  rw [← hP]
  have hkn2 : k < n := by omega
  have hn9 : n ≤ 9223372036854775807 := by omega
  have hdl := hd.out.lt
  have hrl := hr.out.lt
  have oAd : OffB (rowOf A) zd := ⟨fun ⟨ad, e, h⟩ => (az ad e).1 h⟩
  have oAr : OffB (rowOf A) zr := ⟨fun ⟨ad, e, h⟩ => (az ad e).2.1 h⟩
  have oAB : OffA (rowOf A) B := ⟨fun bd e ⟨ad, e2, h⟩ => (az ad e2).2.2 bd e h⟩
  have aA : Above w0 (rowOf A) := ⟨fun x ⟨ad, e, h⟩ => by have := la.out ad e; omega⟩
  have hAn : ∃ ad, A = some ad := by
    obtain ⟨ga, hga⟩ := ha.some_ (show 0 < n by omega)
    exact ⟨_, hga⟩
  have kbs := run_oneH pub
  have kb2 : ∀ (z : Nat) w, (Instr.build 73 #[(0, .slice (some ⟨z, 0, none⟩) 1 1), (1, .int .i64 1)]).run Tryz.prog w = .ok (.agg #[.slice (some ⟨z, 0, none⟩) 1 1, .int .i64 1]) w := fun _ _ => by kernel_rfl
  clear hrise hl hkn hep htl hmet hold hlm hl2 hMI hD hok hPu hP hU hpub
  go_enter Tryz.func8, Tryz.ntmps8
  go_wp2_with (first | ((with_reducible apply (wpl_box_agg (dst := some 3))); (exact rfl); intro ze wze _ _ _) | ((with_reducible apply wpl_loadcellN); (exact rfl); infer_instance; (exact rfl)))
  refine (DecodeReport_calls HLM.out (by omega)).mono ?_
  rintro e w2 ⟨st2, h2⟩
  rw [HOK.out, HD.out] at h2
  obtain rfl : e = _ := h2
  go_wp2_with (first | ((with_reducible apply wpl_storerow); (exact rfl); (exact rfl); infer_instance; infer_instance; (exact repL_len _ _ _ _ _); (exact repL_len _ _ _ _ _); (exact repL_one _ _ _ _ _); intro ws _ _) | ((with_reducible apply (wpl_loadcellN (k := 0))); (exact rfl); infer_instance; (exact rep_at0 _ _ _ _ _)) | ((with_reducible apply (wpl_alloc (dst := some 5))); intro zt wzt _ _ _))
  have hzt : w2.heap.size ≤ zt := Nat.le_of_eq (inferInstance : Born w2 zt).eq.symm
  have oAt : OffB (rowOf A) zt := ⟨fun ⟨ad, e, h⟩ => by have := (inferInstance : HO w2 59 71 A n c (cellsOf L)).out.lt e; omega⟩
  rw [HPU.out]
  refine (placeE_calls U (by have := HL.out; omega) (by have := HN.out; omega) HS.out).mono ?_
  rintro e w7 ⟨j, rfl, hp, st7⟩
  have hjk : j = k := by
    have e1 : ¬ k < j := fun h => by
      have h5 := hp.out.2.1 k h
      rw [HKN.out, bytesLess_irr] at h5
      cases h5
    have e2 : ¬ j < k := fun h => by
      have h5 := hp.out.2.2 j (Nat.le_refl _) (by omega)
      have h6 := HS.out j k h hkl
      rw [HKN.out, h5] at h6
      cases h6
    omega
  subst hjk
  have hin : inE L U j = true := by
    unfold inE
    rw [decide_eq_true hkl, decide_eq_true HKN.out]
    rfl
  rw [hin]
  clear hin hp
  have hra7 : HR w7 A (cellsOf L) := inferInstance
  have hl9 : L.length = n := HL.out
  go_wp2_with (first | ((with_reducible apply wpl_loadcellN); (exact rfl); infer_instance; (exact rfl)) | ((with_reducible apply (wpl_indexE (α := EnrR) (t := 48))); (exact rfl); (exact rfl); infer_instance; infer_instance; (first | (with_reducible assumption) | omega | (focus (simp; done)) | (focus (simp; omega; done)) | decide); (exact rfl); (decide); (first | (with_reducible assumption) | omega | (focus (simp; done)) | (focus (simp; omega; done)) | decide)))
  clear hl9
  refine wp_region_N (nowhere) (by kernel_rfl) (fun wd _ _ => ?_)
  refine' takeH (i := 0) (v := _) rfl (by kernel_rfl) (by kernel_rfl) (by kernel_rfl) (fun _ _ _ h => h) (yields_of (by rfl) (fun w' _ => ?_)) inferInstance ?_
  rotate_left
  · ((with_reducible apply ev_loadrow); (exact rfl); infer_instance; infer_instance; (first | (with_reducible assumption) | (with_reducible exact H32.size _) | (with_reducible exact enc_sz _ rfl) | kernel_rfl))
  try simp only [Act.put, sA]; try simp only [sB, sC]
  refine' takeH (i := 1) (v := _) rfl (by kernel_rfl) (by kernel_rfl) (by kernel_rfl) (fun _ _ _ h => h) (yields_of (by rfl) (fun w' _ => ?_)) inferInstance ?_
  rotate_left
  · (go_simp; try with_reducible rfl)
  try simp only [Act.put, sA]; try simp only [sB, sC]
  refine' takeH (i := 2) (v := _) rfl (by kernel_rfl) (by kernel_rfl) (by kernel_rfl) (fun _ _ _ h => h) (yields_of (by rfl) (fun w' _ => ?_)) inferInstance ?_
  rotate_left
  · ((with_reducible apply ev_nilR); (exact rfl); (exact hAn))
  try simp only [Act.put, sA]; try simp only [sB, sC]
  refine' takeH (i := 3) (v := _) rfl (by kernel_rfl) (by kernel_rfl) (by kernel_rfl) (fun _ _ _ h => h) (yields_of (by rfl) (fun w' _ => ?_)) inferInstance ?_
  rotate_left
  · ((with_reducible apply (ev_fieldE (t := 59))); (exact Tryz.underlying59); (exact rfl); (kernel_rfl); (exact rfl); infer_instance; (exact cells_pos (by decide) (by omega)))
  try simp only [Act.put, sA]; try simp only [sB, sC]
  refine' takeH (i := 4) (v := _) rfl (by kernel_rfl) (by kernel_rfl) (by kernel_rfl) (fun _ _ _ h => h) (yields_of (by rfl) (fun w' _ => ?_)) inferInstance ?_
  rotate_left
  · ((with_reducible apply (ev_loadEPH (α := EnrR) (k := j) (j := 2) (s := 71))); infer_instance; (exact rfl); infer_instance; (exact rfl); (exact hkl); (exact HEP.out))
  try simp only [Act.put, sA]; try simp only [sB, sC]
  refine goH (i := 5) (by kernel_rfl) rfl (fun K_ hK_ => ?_)
  rw [if_pos (by kernel_rfl)]
  refine wpr_of_list ?_
  (first | ((with_reducible apply (stop_dst (dst := some 40))); (try simp only [Act.put, sA, sB, sC]); ((with_reducible apply (wpl_bslice (dst := some 40))); (exact kbs _); intro zs wb _ _ _)) | ((with_reducible apply wpl_build); (exact kb2 _ _)))
  refine wpList_nil ?_
  unfold onlyN
  refine hK_.out _ _ inferInstance (fun _ => ?_)
  clear hK_ K_
  try simp only [Act.put, sA]; try simp only [sB, sC]
  refine' takeH (i := 6) (v := _) rfl (by kernel_rfl) (by kernel_rfl) (by kernel_rfl) (fun _ _ _ h => h) (yields_of (by rfl) (fun w' _ => ?_)) inferInstance ?_
  rotate_left
  · ((with_reducible apply ev_build); exact kb2 _ _)
  try simp only [Act.put, sA]; try simp only [sB, sC]
  refine goH (i := 7) (by kernel_rfl) rfl (fun K_ hK_ => ?_)
  go_simp
  have hrs : HR wb (some ⟨zs, 0, none⟩) (cellsOf [pub]) := by
    have h : HR wb (some ⟨zs, 0, none⟩) (bs pub.l) := inferInstance
    rwa [show cellsOf [pub] = bs pub.l from List.append_nil _]
  refine (meets_calls (l := l) (ks := [pub]) 1 (fun r h => MarkIn.nw (HMI.out r h)) HL2.out hc2 hmax2 HLM.out hcap (by omega) rfl (show 1 ≤ 10000 by decide) (Nat.le_refl _)).mono ?_
  rw [HMET.out]
  rintro e wm ⟨rfl, _⟩
  refine hK_.out _ _ inferInstance (fun _ => ?_)
  clear hK_ K_
  try simp only [Act.put, sA]; try simp only [sB, sC]
  refine' takeH (i := 8) (v := _) rfl (by kernel_rfl) (by kernel_rfl) (by kernel_rfl) (fun _ _ _ h => h) (yields_of (by rfl) (fun w' _ => ?_)) inferInstance ?_
  rotate_left
  · (go_simp; try with_reducible rfl)
  try simp only [Act.put, sA]; try simp only [sB, sC]
  refine wpAnyH_done (by kernel_rfl) ?_ _
  cases met with
  | false =>
    go_wp2_with fail
    go_ret
    have hdf : HB wm zd 50 #[.pointer (some ⟨zr, 0, none⟩), .slice A n c] := inferInstance
    have haf : HO wm 59 71 A n c (cellsOf L) := inferInstance
    have hrf : HB wm zr 84 (rpL sd p0 p1 f g v (.slice B m d :: suf)).toArray := inferInstance
    have hbf : HO wm 76 37 B m d (cellsOf T) := inferInstance
    exact ⟨rfl, inferInstance, stepC, hdf, haf, HL.out, hrf, hbf, hm, hs, zz, az, bz, ld, lr, la, lb⟩
  | true =>
    cases q with
    | false =>
      have HO2 : old = false := by rw [← HOLD.out]; rfl
      subst HO2
      go_wp2_with fail
      refine wp_region_N (nowhere) (by kernel_rfl) (fun wd _ _ => ?_)
      refine' takeH (i := 0) (v := _) rfl (by kernel_rfl) (by kernel_rfl) (by kernel_rfl) (fun _ _ _ h => h) (yields_of (by rfl) (fun w' _ => ?_)) inferInstance ?_
      rotate_left
      · (go_simp; try with_reducible rfl)
      try simp only [Act.put, sA]; try simp only [sB, sC]
      refine' takeH (i := 1) (v := _) rfl (by kernel_rfl) (by kernel_rfl) (by kernel_rfl) (fun _ _ _ h => h) (yields_of (by rfl) (fun w' _ => ?_)) inferInstance ?_
      rotate_left
      · ((with_reducible apply ev_nilR); (exact rfl); (exact hAn))
      try simp only [Act.put, sA]; try simp only [sB, sC]
      refine' takeH (i := 2) (v := _) rfl (by kernel_rfl) (by kernel_rfl) (by kernel_rfl) (fun _ _ _ h => h) (yields_of (by rfl) (fun w' _ => ?_)) inferInstance ?_
      rotate_left
      · ((with_reducible apply (ev_fieldE (t := 59))); (exact Tryz.underlying59); (exact rfl); (kernel_rfl); (exact rfl); infer_instance; (exact cells_pos (by decide) (by omega)))
      try simp only [Act.put, sA]; try simp only [sB, sC]
      refine' takeH (i := 3) (v := _) rfl (by kernel_rfl) (by kernel_rfl) (by kernel_rfl) (fun _ _ _ h => h) (yields_of (by rfl) (fun w' _ => ?_)) inferInstance ?_
      rotate_left
      · ((with_reducible apply (ev_loadF (α := EnrR) (k := j) (j := 34) (s := 71))); infer_instance; (exact rfl); infer_instance; (exact rfl); (exact hkl); (exact HE34.out))
      try simp only [Act.put, sA]; try simp only [sB, sC]
      refine' takeH (i := 4) (v := _) rfl (by kernel_rfl) (by kernel_rfl) (by kernel_rfl) (fun _ _ _ h => h) (yields_of (by rfl) (fun w' _ => ?_)) inferInstance ?_
      rotate_left
      · (go_simp; try with_reducible rfl)
      try simp only [Act.put, sA]; try simp only [sB, sC]
      refine takeH (i := 5) (v := undef) rfl (by kernel_rfl) (by kernel_rfl) (by kernel_rfl) (fun _ _ _ h => h) (Or.inr ⟨by rfl, rfl⟩) inferInstance ?_
      try simp only [Act.put, sA]; try simp only [sB, sC]
      refine takeH (i := 6) (v := undef) rfl (by kernel_rfl) (by kernel_rfl) (by kernel_rfl) (fun _ _ _ h => h) (Or.inr ⟨by rfl, rfl⟩) inferInstance ?_
      try simp only [Act.put, sA]; try simp only [sB, sC]
      refine takeH (i := 7) (v := undef) rfl (by kernel_rfl) (by kernel_rfl) (by kernel_rfl) (fun _ _ _ h => h) (Or.inr ⟨by rfl, rfl⟩) inferInstance ?_
      try simp only [Act.put, sA]; try simp only [sB, sC]
      refine takeH (i := 8) (v := undef) rfl (by kernel_rfl) (by kernel_rfl) (by kernel_rfl) (fun _ _ _ h => h) (Or.inr ⟨by rfl, rfl⟩) inferInstance ?_
      try simp only [Act.put, sA]; try simp only [sB, sC]
      refine takeH (i := 9) (v := undef) rfl (by kernel_rfl) (by kernel_rfl) (by kernel_rfl) (fun _ _ _ h => h) (Or.inr ⟨by rfl, rfl⟩) inferInstance ?_
      try simp only [Act.put, sA]; try simp only [sB, sC]
      refine takeH (i := 10) (v := undef) rfl (by kernel_rfl) (by kernel_rfl) (by kernel_rfl) (fun _ _ _ h => h) (Or.inr ⟨by rfl, rfl⟩) inferInstance ?_
      try simp only [Act.put, sA]; try simp only [sB, sC]
      refine takeH (i := 11) (v := undef) rfl (by kernel_rfl) (by kernel_rfl) (by kernel_rfl) (fun _ _ _ h => h) (Or.inr ⟨by rfl, rfl⟩) inferInstance ?_
      try simp only [Act.put, sA]; try simp only [sB, sC]
      refine takeH (i := 12) (v := undef) rfl (by kernel_rfl) (by kernel_rfl) (by kernel_rfl) (fun _ _ _ h => h) (Or.inr ⟨by rfl, rfl⟩) inferInstance ?_
      try simp only [Act.put, sA]; try simp only [sB, sC]
      refine' takeH (i := 13) (v := _) rfl (by kernel_rfl) (by kernel_rfl) (by kernel_rfl) (fun _ _ _ h => h) (yields_of (by rfl) (fun w' _ => ?_)) inferInstance ?_
      rotate_left
      · (go_simp; try with_reducible rfl)
      try simp only [Act.put, sA]; try simp only [sB, sC]
      refine wpAnyH_done (by kernel_rfl) ?_ _
      have hE1 : RowC.enc ((gt L j).setT true p) = (RowC.enc (gt L j)).take 34 ++ [.bool true] ++ (RowC.enc (gt L j)).drop (34 + 1) := enc_setT1 HTL.out
      have hE2 : RowC.enc ((gt L j).setT true P) = (RowC.enc (gt (L.set j ((gt L j).setT true p)) j)).take 35 ++ (repL P.u P.n P.h P.c P.k).toArray.toList ++ (RowC.enc (gt (L.set j ((gt L j).setT true p)) j)).drop (35 + 36) := by
        rw [gt_setE _ _ _ hkl]
        exact enc_setT2 _ _ _
      have hset2 : (L.set j ((gt L j).setT true p)).set j ((gt L j).setT true P) = L.set j ((gt L j).setT true P) := List.set_set _
      have hkl2 : j < (L.set j ((gt L j).setT true p)).length := by rw [List.length_set]; exact hkl
      have HE1 := Lib.hid hE1
      have HE2 := Lib.hid hE2
      have HG := Lib.hid hset2
      clear hE1 hE2 hset2
      go_wp2_with fail
      refine wp_region_N ((rowOf A)) (by kernel_rfl) (fun wd _ _ => ?_)
      refine' takeH (i := 0) (v := _) rfl (by kernel_rfl) (by kernel_rfl) (by kernel_rfl) (fun _ _ _ h => h) (yields_of (by rfl) (fun w' _ => ?_)) inferInstance ?_
      rotate_left
      · (go_simp; try with_reducible rfl)
      try simp only [Act.put, sA]; try simp only [sB, sC]
      refine' takeH (i := 1) (v := _) rfl (by kernel_rfl) (by kernel_rfl) (by kernel_rfl) (fun _ _ _ h => h) (yields_of (by rfl) (fun w' _ => ?_)) inferInstance ?_
      rotate_left
      · (go_simp; try with_reducible rfl)
      try simp only [Act.put, sA]; try simp only [sB, sC]
      refine' takeH (i := 2) (v := _) rfl (by kernel_rfl) (by kernel_rfl) (by kernel_rfl) (fun _ _ _ h => h) (yields_of (by rfl) (fun w' _ => ?_)) inferInstance ?_
      rotate_left
      · ((with_reducible apply ev_loadrow); (exact rfl); infer_instance; infer_instance; (exact repL_len _ _ _ _ _))
      try simp only [Act.put, sA]; try simp only [sB, sC]
      refine goH (i := 3) (by kernel_rfl) rfl (fun K_ hK_ => ?_)
      rw [if_pos (by kernel_rfl)]
      refine wpr_of_list ?_
      (first | ((with_reducible apply wpl_nilR); (exact rfl); (exact hAn)) | ((with_reducible apply (wpl_storeC (α := EnrR) (k := j) (j := 34) (s := 71))); (exact rfl); (exact rfl); infer_instance; infer_instance; (exact rfl); (exact rfl); (exact hkl); (decide); (exact HE1.out); intro wx stx hax) | ((with_reducible apply (wpl_storeQ (α := EnrR) (k := j) (j := 35) (s := 71) (m := 36))); (exact rfl); (exact rfl); (exact hax); infer_instance; (exact repL_len _ _ _ _ _); (decide); (exact (repL_one _ _ _ _ _)); (exact rfl); (exact hkl2); (decide); (exact HE2.out); intro wy sty hay))
      refine wpList_nil ?_
      unfold onlyN
      refine hK_.out _ _ inferInstance (fun _ => ?_)
      clear hK_ K_
      try simp only [Act.put, sA]; try simp only [sB, sC]
      refine goH (i := 4) (by kernel_rfl) rfl (fun K_ hK_ => ?_)
      rw [if_pos (by kernel_rfl)]
      refine wpr_of_list ?_
      (first | ((with_reducible apply wpl_nilR); (exact rfl); (exact hAn)) | ((with_reducible apply (wpl_storeC (α := EnrR) (k := j) (j := 34) (s := 71))); (exact rfl); (exact rfl); infer_instance; infer_instance; (exact rfl); (exact rfl); (exact hkl); (decide); (exact HE1.out); intro wx stx hax) | ((with_reducible apply (wpl_storeQ (α := EnrR) (k := j) (j := 35) (s := 71) (m := 36))); (exact rfl); (exact rfl); (exact hax); infer_instance; (exact repL_len _ _ _ _ _); (decide); (exact (repL_one _ _ _ _ _)); (exact rfl); (exact hkl2); (decide); (exact HE2.out); intro wy sty hay) | ((with_reducible apply (wpl_fieldE (t := 59))); (exact Tryz.underlying59); (exact rfl); (kernel_rfl); (exact rfl); infer_instance; (exact cells_pos (by decide) (by omega))) | ((with_reducible apply (wpl_fieldE (t := 43))); (exact Tryz.underlying43); (exact rfl); (kernel_rfl); (exact rfl); infer_instance; (exact cells_pos (by decide) (by omega))))
      refine wpList_nil ?_
      unfold onlyN
      refine hK_.out _ _ inferInstance (fun _ => ?_)
      clear hK_ K_
      try simp only [Act.put, sA]; try simp only [sB, sC]
      refine goH (i := 5) (by kernel_rfl) rfl (fun K_ hK_ => ?_)
      rw [if_pos (by kernel_rfl)]
      refine wpr_of_list ?_
      (first | ((with_reducible apply wpl_nilR); (exact rfl); (exact hAn)) | ((with_reducible apply (wpl_storeC (α := EnrR) (k := j) (j := 34) (s := 71))); (exact rfl); (exact rfl); infer_instance; infer_instance; (exact rfl); (exact rfl); (exact hkl); (decide); (exact HE1.out); intro wx stx hax) | ((with_reducible apply (wpl_storeQ (α := EnrR) (k := j) (j := 35) (s := 71) (m := 36))); (exact rfl); (exact rfl); (exact hax); infer_instance; (exact repL_len _ _ _ _ _); (decide); (exact (repL_one _ _ _ _ _)); (exact rfl); (exact hkl2); (decide); (exact HE2.out); intro wy sty hay) | ((with_reducible apply wpl_storerow); (exact rfl); (exact rfl); infer_instance; infer_instance; (first | (with_reducible assumption) | (with_reducible exact H32.size _) | (with_reducible exact enc_sz _ rfl) | kernel_rfl); (first | (with_reducible assumption) | (with_reducible exact H32.size _) | (with_reducible exact enc_sz _ rfl) | kernel_rfl); (first | (with_reducible exact u8s_one _) | (with_reducible assumption) | (with_reducible exact enc_one _) | kernel_rfl); intro ws _ _) | ((with_reducible apply wpl_storecell); (exact rfl); (exact rfl); infer_instance; (exact rfl); (first | (with_reducible assumption) | omega | (focus (simp; done)) | (focus (simp; omega; done)) | decide); intro ws _ _) | ((with_reducible apply (wpl_storehash (t := 26))); (exact rfl); (exact rfl); infer_instance; infer_instance; (first | (with_reducible assumption) | omega | (focus (simp; done)) | (focus (simp; omega; done)) | decide); intro ws _ _) | ((with_reducible apply (wpl_storebyteH (t := 5))); (exact rfl); (exact rfl); infer_instance; (first | (with_reducible assumption) | omega); (first | (with_reducible assumption) | omega); (first | (constructor <;> omega) | exact xor_u8_in _ _); intro ws _ _) | ((with_reducible apply (wpl_storeint (t := 3))); (exact rfl); (exact rfl); infer_instance; (first | (with_reducible assumption) | omega); intro ws _ _) | ((with_reducible apply (wpl_storebyte (t := 5))); (exact rfl); (exact rfl); infer_instance; (first | (with_reducible assumption) | omega | (focus (simp; done)) | (focus (simp; omega; done)) | decide); (constructor <;> omega); intro ws _ _))
      refine wpList_nil ?_
      unfold onlyN
      refine hK_.out _ _ inferInstance (fun _ => ?_)
      clear hK_ K_
      try simp only [Act.put]
      refine goH (i := 6) (by kernel_rfl) rfl (fun K_ hK_ => ?_)
      rw [if_pos (by kernel_rfl)]
      refine wpr_of_list ?_
      (first | ((with_reducible apply wpl_nilR); (exact rfl); (exact hAn)) | ((with_reducible apply (wpl_storeC (α := EnrR) (k := j) (j := 34) (s := 71))); (exact rfl); (exact rfl); infer_instance; infer_instance; (exact rfl); (exact rfl); (exact hkl); (decide); (exact HE1.out); intro wx stx hax) | ((with_reducible apply (wpl_storeQ (α := EnrR) (k := j) (j := 35) (s := 71) (m := 36))); (exact rfl); (exact rfl); (exact hax); infer_instance; (exact repL_len _ _ _ _ _); (decide); (exact (repL_one _ _ _ _ _)); (exact rfl); (exact hkl2); (decide); (exact HE2.out); intro wy sty hay))
      refine wpList_nil ?_
      unfold onlyN
      refine hK_.out _ _ inferInstance (fun _ => ?_)
      clear hK_ K_
      try simp only [Act.put, sA]; try simp only [sB, sC]
      refine goH (i := 7) (by kernel_rfl) rfl (fun K_ hK_ => ?_)
      rw [if_pos (by kernel_rfl)]
      refine wpr_of_list ?_
      (first | ((with_reducible apply wpl_nilR); (exact rfl); (exact hAn)) | ((with_reducible apply (wpl_storeC (α := EnrR) (k := j) (j := 34) (s := 71))); (exact rfl); (exact rfl); infer_instance; infer_instance; (exact rfl); (exact rfl); (exact hkl); (decide); (exact HE1.out); intro wx stx hax) | ((with_reducible apply (wpl_storeQ (α := EnrR) (k := j) (j := 35) (s := 71) (m := 36))); (exact rfl); (exact rfl); (exact hax); infer_instance; (exact repL_len _ _ _ _ _); (decide); (exact (repL_one _ _ _ _ _)); (exact rfl); (exact hkl2); (decide); (exact HE2.out); intro wy sty hay) | ((with_reducible apply (wpl_fieldE (t := 59))); (exact Tryz.underlying59); (exact rfl); (kernel_rfl); (exact rfl); infer_instance; (exact cells_pos (by decide) (by omega))) | ((with_reducible apply (wpl_fieldE (t := 43))); (exact Tryz.underlying43); (exact rfl); (kernel_rfl); (exact rfl); infer_instance; (exact cells_pos (by decide) (by omega))))
      refine wpList_nil ?_
      unfold onlyN
      refine hK_.out _ _ inferInstance (fun _ => ?_)
      clear hK_ K_
      try simp only [Act.put, sA]; try simp only [sB, sC]
      refine goH (i := 8) (by kernel_rfl) rfl (fun K_ hK_ => ?_)
      rw [if_pos (by kernel_rfl)]
      refine wpr_of_list ?_
      (first | ((with_reducible apply wpl_nilR); (exact rfl); (exact hAn)) | ((with_reducible apply (wpl_storeC (α := EnrR) (k := j) (j := 34) (s := 71))); (exact rfl); (exact rfl); infer_instance; infer_instance; (exact rfl); (exact rfl); (exact hkl); (decide); (exact HE1.out); intro wx stx hax) | ((with_reducible apply (wpl_storeQ (α := EnrR) (k := j) (j := 35) (s := 71) (m := 36))); (exact rfl); (exact rfl); (exact hax); infer_instance; (exact repL_len _ _ _ _ _); (decide); (exact (repL_one _ _ _ _ _)); (exact rfl); (exact hkl2); (decide); (exact HE2.out); intro wy sty hay) | ((with_reducible apply wpl_storerow); (exact rfl); (exact rfl); infer_instance; infer_instance; (first | (with_reducible assumption) | (with_reducible exact H32.size _) | (with_reducible exact enc_sz _ rfl) | kernel_rfl); (first | (with_reducible assumption) | (with_reducible exact H32.size _) | (with_reducible exact enc_sz _ rfl) | kernel_rfl); (first | (with_reducible exact u8s_one _) | (with_reducible assumption) | (with_reducible exact enc_one _) | kernel_rfl); intro ws _ _) | ((with_reducible apply wpl_storecell); (exact rfl); (exact rfl); infer_instance; (exact rfl); (first | (with_reducible assumption) | omega | (focus (simp; done)) | (focus (simp; omega; done)) | decide); intro ws _ _) | ((with_reducible apply (wpl_storehash (t := 26))); (exact rfl); (exact rfl); infer_instance; infer_instance; (first | (with_reducible assumption) | omega | (focus (simp; done)) | (focus (simp; omega; done)) | decide); intro ws _ _) | ((with_reducible apply (wpl_storebyteH (t := 5))); (exact rfl); (exact rfl); infer_instance; (first | (with_reducible assumption) | omega); (first | (with_reducible assumption) | omega); (first | (constructor <;> omega) | exact xor_u8_in _ _); intro ws _ _) | ((with_reducible apply (wpl_storeint (t := 3))); (exact rfl); (exact rfl); infer_instance; (first | (with_reducible assumption) | omega); intro ws _ _) | ((with_reducible apply (wpl_storebyte (t := 5))); (exact rfl); (exact rfl); infer_instance; (first | (with_reducible assumption) | omega | (focus (simp; done)) | (focus (simp; omega; done)) | decide); (constructor <;> omega); intro ws _ _))
      refine wpList_nil ?_
      unfold onlyN
      refine hK_.out _ _ inferInstance (fun _ => ?_)
      clear hK_ K_
      try simp only [Act.put]
      refine wpAnyH_done (by kernel_rfl) ?_ _
      all_goals
        have hfin : HO wy 59 71 A n c (cellsOf (L.set j ((gt L j).setT true P))) := by
          rw [← HG.out]
          exact hay
        have hlen : (L.set j ((gt L j).setT true P)).length = n := by rw [List.length_set]; exact HL.out
        go_wp2_with fail
        go_ret
        have hdf : HB wy zd 50 #[.pointer (some ⟨zr, 0, none⟩), .slice A n c] := inferInstance
        have hrf : HB wy zr 84 (rpL sd p0 p1 f g v (.slice B m d :: suf)).toArray := inferInstance
        have hbf : HO wy 76 37 B m d (cellsOf T) := inferInstance
        exact ⟨rfl, inferInstance, stepC, hdf, hfin, hlen, hrf, hbf, hm, hs, zz, az, bz, ld, lr, la, lb⟩
    | true =>
      by_cases hle : P.k ≤ p.k
      · have HO2 : old = true := by rw [← HOLD.out]; simp [hle]
        subst HO2
        go_wp2_with fail
        refine wp_region_N (nowhere) (by kernel_rfl) (fun wd _ _ => ?_)
        refine' takeH (i := 0) (v := _) rfl (by kernel_rfl) (by kernel_rfl) (by kernel_rfl) (fun _ _ _ h => h) (yields_of (by rfl) (fun w' _ => ?_)) inferInstance ?_
        rotate_left
        · (go_simp; try with_reducible rfl)
        try simp only [Act.put, sA]; try simp only [sB, sC]
        refine' takeH (i := 1) (v := _) rfl (by kernel_rfl) (by kernel_rfl) (by kernel_rfl) (fun _ _ _ h => h) (yields_of (by rfl) (fun w' _ => ?_)) inferInstance ?_
        rotate_left
        · ((with_reducible apply ev_nilR); (exact rfl); (exact hAn))
        try simp only [Act.put, sA]; try simp only [sB, sC]
        refine' takeH (i := 2) (v := _) rfl (by kernel_rfl) (by kernel_rfl) (by kernel_rfl) (fun _ _ _ h => h) (yields_of (by rfl) (fun w' _ => ?_)) inferInstance ?_
        rotate_left
        · ((with_reducible apply (ev_fieldE (t := 59))); (exact Tryz.underlying59); (exact rfl); (kernel_rfl); (exact rfl); infer_instance; (exact cells_pos (by decide) (by omega)))
        try simp only [Act.put, sA]; try simp only [sB, sC]
        refine' takeH (i := 3) (v := _) rfl (by kernel_rfl) (by kernel_rfl) (by kernel_rfl) (fun _ _ _ h => h) (yields_of (by rfl) (fun w' _ => ?_)) inferInstance ?_
        rotate_left
        · ((with_reducible apply (ev_loadF (α := EnrR) (k := j) (j := 34) (s := 71))); infer_instance; (exact rfl); infer_instance; (exact rfl); (exact hkl); (exact HE34.out))
        try simp only [Act.put, sA]; try simp only [sB, sC]
        refine' takeH (i := 4) (v := _) rfl (by kernel_rfl) (by kernel_rfl) (by kernel_rfl) (fun _ _ _ h => h) (yields_of (by rfl) (fun w' _ => ?_)) inferInstance ?_
        rotate_left
        · (go_simp; try with_reducible rfl)
        try simp only [Act.put, sA]; try simp only [sB, sC]
        refine' takeH (i := 5) (v := _) rfl (by kernel_rfl) (by kernel_rfl) (by kernel_rfl) (fun _ _ _ h => h) (yields_of (by rfl) (fun w' _ => ?_)) inferInstance ?_
        rotate_left
        · (go_simp; try with_reducible rfl)
        try simp only [Act.put, sA]; try simp only [sB, sC]
        refine' takeH (i := 6) (v := _) rfl (by kernel_rfl) (by kernel_rfl) (by kernel_rfl) (fun _ _ _ h => h) (yields_of (by rfl) (fun w' _ => ?_)) inferInstance ?_
        rotate_left
        · ((with_reducible apply ev_loadcellN); (exact rfl); infer_instance; infer_instance; (exact rep_at35 _ _ _ _ _))
        try simp only [Act.put, sA]; try simp only [sB, sC]
        refine' takeH (i := 7) (v := _) rfl (by kernel_rfl) (by kernel_rfl) (by kernel_rfl) (fun _ _ _ h => h) (yields_of (by rfl) (fun w' _ => ?_)) inferInstance ?_
        rotate_left
        · (go_simp; try with_reducible rfl)
        try simp only [Act.put, sA]; try simp only [sB, sC]
        refine' takeH (i := 8) (v := _) rfl (by kernel_rfl) (by kernel_rfl) (by kernel_rfl) (fun _ _ _ h => h) (yields_of (by rfl) (fun w' _ => ?_)) inferInstance ?_
        rotate_left
        · ((with_reducible apply ev_nilR); (exact rfl); (exact hAn))
        try simp only [Act.put, sA]; try simp only [sB, sC]
        refine' takeH (i := 9) (v := _) rfl (by kernel_rfl) (by kernel_rfl) (by kernel_rfl) (fun _ _ _ h => h) (yields_of (by rfl) (fun w' _ => ?_)) inferInstance ?_
        rotate_left
        · ((with_reducible apply (ev_fieldE (t := 59))); (exact Tryz.underlying59); (exact rfl); (kernel_rfl); (exact rfl); infer_instance; (exact cells_pos (by decide) (by omega)))
        try simp only [Act.put, sA]; try simp only [sB, sC]
        refine' takeH (i := 10) (v := _) rfl (by kernel_rfl) (by kernel_rfl) (by kernel_rfl) (fun _ _ _ h => h) (yields_of (by rfl) (fun w' _ => ?_)) inferInstance ?_
        rotate_left
        · ((with_reducible apply (ev_fieldE (t := 43))); (exact Tryz.underlying43); (exact rfl); (kernel_rfl); (exact rfl); infer_instance; (exact cells_pos (by decide) (by omega)))
        try simp only [Act.put, sA]; try simp only [sB, sC]
        refine' takeH (i := 11) (v := _) rfl (by kernel_rfl) (by kernel_rfl) (by kernel_rfl) (fun _ _ _ h => h) (yields_of (by rfl) (fun w' _ => ?_)) inferInstance ?_
        rotate_left
        · ((with_reducible apply (ev_loadF2 (α := EnrR) (k := j) (i := 35) (j := 35) (s := 71))); infer_instance; (exact rfl); infer_instance; (exact rfl); (exact hkl); (exact HE70.out))
        try simp only [Act.put, sA]; try simp only [sB, sC]
        refine' takeH (i := 12) (v := _) rfl (by kernel_rfl) (by kernel_rfl) (by kernel_rfl) (fun _ _ _ h => h) (yields_of (by rfl) (fun w' _ => ?_)) inferInstance ?_
        rotate_left
        · (go_simp; try with_reducible rfl)
        try simp only [Act.put, sA]; try simp only [sB, sC]
        refine' takeH (i := 13) (v := _) rfl (by kernel_rfl) (by kernel_rfl) (by kernel_rfl) (fun _ _ _ h => h) (yields_of (by rfl) (fun w' _ => ?_)) inferInstance ?_
        rotate_left
        · (go_simp; try with_reducible rfl)
        try simp only [Act.put, sA]; try simp only [sB, sC]
        refine wpAnyH_done (by kernel_rfl) ?_ _
        go_wp2_with fail
        go_ret
        have hdf : HB wd zd 50 #[.pointer (some ⟨zr, 0, none⟩), .slice A n c] := inferInstance
        have haf : HO wd 59 71 A n c (cellsOf L) := inferInstance
        have hrf : HB wd zr 84 (rpL sd p0 p1 f g v (.slice B m d :: suf)).toArray := inferInstance
        have hbf : HO wd 76 37 B m d (cellsOf T) := inferInstance
        exact ⟨rfl, inferInstance, stepC, hdf, haf, HL.out, hrf, hbf, hm, hs, zz, az, bz, ld, lr, la, lb⟩
      · have HO2 : old = false := by rw [← HOLD.out]; simp [hle]
        subst HO2
        go_wp2_with fail
        refine wp_region_N (nowhere) (by kernel_rfl) (fun wd _ _ => ?_)
        refine' takeH (i := 0) (v := _) rfl (by kernel_rfl) (by kernel_rfl) (by kernel_rfl) (fun _ _ _ h => h) (yields_of (by rfl) (fun w' _ => ?_)) inferInstance ?_
        rotate_left
        · (go_simp; try with_reducible rfl)
        try simp only [Act.put, sA]; try simp only [sB, sC]
        refine' takeH (i := 1) (v := _) rfl (by kernel_rfl) (by kernel_rfl) (by kernel_rfl) (fun _ _ _ h => h) (yields_of (by rfl) (fun w' _ => ?_)) inferInstance ?_
        rotate_left
        · ((with_reducible apply ev_nilR); (exact rfl); (exact hAn))
        try simp only [Act.put, sA]; try simp only [sB, sC]
        refine' takeH (i := 2) (v := _) rfl (by kernel_rfl) (by kernel_rfl) (by kernel_rfl) (fun _ _ _ h => h) (yields_of (by rfl) (fun w' _ => ?_)) inferInstance ?_
        rotate_left
        · ((with_reducible apply (ev_fieldE (t := 59))); (exact Tryz.underlying59); (exact rfl); (kernel_rfl); (exact rfl); infer_instance; (exact cells_pos (by decide) (by omega)))
        try simp only [Act.put, sA]; try simp only [sB, sC]
        refine' takeH (i := 3) (v := _) rfl (by kernel_rfl) (by kernel_rfl) (by kernel_rfl) (fun _ _ _ h => h) (yields_of (by rfl) (fun w' _ => ?_)) inferInstance ?_
        rotate_left
        · ((with_reducible apply (ev_loadF (α := EnrR) (k := j) (j := 34) (s := 71))); infer_instance; (exact rfl); infer_instance; (exact rfl); (exact hkl); (exact HE34.out))
        try simp only [Act.put, sA]; try simp only [sB, sC]
        refine' takeH (i := 4) (v := _) rfl (by kernel_rfl) (by kernel_rfl) (by kernel_rfl) (fun _ _ _ h => h) (yields_of (by rfl) (fun w' _ => ?_)) inferInstance ?_
        rotate_left
        · (go_simp; try with_reducible rfl)
        try simp only [Act.put, sA]; try simp only [sB, sC]
        refine' takeH (i := 5) (v := _) rfl (by kernel_rfl) (by kernel_rfl) (by kernel_rfl) (fun _ _ _ h => h) (yields_of (by rfl) (fun w' _ => ?_)) inferInstance ?_
        rotate_left
        · (go_simp; try with_reducible rfl)
        try simp only [Act.put, sA]; try simp only [sB, sC]
        refine' takeH (i := 6) (v := _) rfl (by kernel_rfl) (by kernel_rfl) (by kernel_rfl) (fun _ _ _ h => h) (yields_of (by rfl) (fun w' _ => ?_)) inferInstance ?_
        rotate_left
        · ((with_reducible apply ev_loadcellN); (exact rfl); infer_instance; infer_instance; (exact rep_at35 _ _ _ _ _))
        try simp only [Act.put, sA]; try simp only [sB, sC]
        refine' takeH (i := 7) (v := _) rfl (by kernel_rfl) (by kernel_rfl) (by kernel_rfl) (fun _ _ _ h => h) (yields_of (by rfl) (fun w' _ => ?_)) inferInstance ?_
        rotate_left
        · (go_simp; try with_reducible rfl)
        try simp only [Act.put, sA]; try simp only [sB, sC]
        refine' takeH (i := 8) (v := _) rfl (by kernel_rfl) (by kernel_rfl) (by kernel_rfl) (fun _ _ _ h => h) (yields_of (by rfl) (fun w' _ => ?_)) inferInstance ?_
        rotate_left
        · ((with_reducible apply ev_nilR); (exact rfl); (exact hAn))
        try simp only [Act.put, sA]; try simp only [sB, sC]
        refine' takeH (i := 9) (v := _) rfl (by kernel_rfl) (by kernel_rfl) (by kernel_rfl) (fun _ _ _ h => h) (yields_of (by rfl) (fun w' _ => ?_)) inferInstance ?_
        rotate_left
        · ((with_reducible apply (ev_fieldE (t := 59))); (exact Tryz.underlying59); (exact rfl); (kernel_rfl); (exact rfl); infer_instance; (exact cells_pos (by decide) (by omega)))
        try simp only [Act.put, sA]; try simp only [sB, sC]
        refine' takeH (i := 10) (v := _) rfl (by kernel_rfl) (by kernel_rfl) (by kernel_rfl) (fun _ _ _ h => h) (yields_of (by rfl) (fun w' _ => ?_)) inferInstance ?_
        rotate_left
        · ((with_reducible apply (ev_fieldE (t := 43))); (exact Tryz.underlying43); (exact rfl); (kernel_rfl); (exact rfl); infer_instance; (exact cells_pos (by decide) (by omega)))
        try simp only [Act.put, sA]; try simp only [sB, sC]
        refine' takeH (i := 11) (v := _) rfl (by kernel_rfl) (by kernel_rfl) (by kernel_rfl) (fun _ _ _ h => h) (yields_of (by rfl) (fun w' _ => ?_)) inferInstance ?_
        rotate_left
        · ((with_reducible apply (ev_loadF2 (α := EnrR) (k := j) (i := 35) (j := 35) (s := 71))); infer_instance; (exact rfl); infer_instance; (exact rfl); (exact hkl); (exact HE70.out))
        try simp only [Act.put, sA]; try simp only [sB, sC]
        refine' takeH (i := 12) (v := _) rfl (by kernel_rfl) (by kernel_rfl) (by kernel_rfl) (fun _ _ _ h => h) (yields_of (by rfl) (fun w' _ => ?_)) inferInstance ?_
        rotate_left
        · (go_simp; try with_reducible rfl)
        try simp only [Act.put, sA]; try simp only [sB, sC]
        refine' takeH (i := 13) (v := _) rfl (by kernel_rfl) (by kernel_rfl) (by kernel_rfl) (fun _ _ _ h => h) (yields_of (by rfl) (fun w' _ => ?_)) inferInstance ?_
        rotate_left
        · (go_simp; try with_reducible rfl)
        try simp only [Act.put, sA]; try simp only [sB, sC]
        refine wpAnyH_done (by kernel_rfl) ?_ _
        have hE1 : RowC.enc ((gt L j).setT true p) = (RowC.enc (gt L j)).take 34 ++ [.bool true] ++ (RowC.enc (gt L j)).drop (34 + 1) := enc_setT1 HTL.out
        have hE2 : RowC.enc ((gt L j).setT true P) = (RowC.enc (gt (L.set j ((gt L j).setT true p)) j)).take 35 ++ (repL P.u P.n P.h P.c P.k).toArray.toList ++ (RowC.enc (gt (L.set j ((gt L j).setT true p)) j)).drop (35 + 36) := by
          rw [gt_setE _ _ _ hkl]
          exact enc_setT2 _ _ _
        have hset2 : (L.set j ((gt L j).setT true p)).set j ((gt L j).setT true P) = L.set j ((gt L j).setT true P) := List.set_set _
        have hkl2 : j < (L.set j ((gt L j).setT true p)).length := by rw [List.length_set]; exact hkl
        have HE1 := Lib.hid hE1
        have HE2 := Lib.hid hE2
        have HG := Lib.hid hset2
        clear hE1 hE2 hset2
        go_wp2_with fail
        refine wp_region_N ((rowOf A)) (by kernel_rfl) (fun wd _ _ => ?_)
        refine' takeH (i := 0) (v := _) rfl (by kernel_rfl) (by kernel_rfl) (by kernel_rfl) (fun _ _ _ h => h) (yields_of (by rfl) (fun w' _ => ?_)) inferInstance ?_
        rotate_left
        · (go_simp; try with_reducible rfl)
        try simp only [Act.put, sA]; try simp only [sB, sC]
        refine' takeH (i := 1) (v := _) rfl (by kernel_rfl) (by kernel_rfl) (by kernel_rfl) (fun _ _ _ h => h) (yields_of (by rfl) (fun w' _ => ?_)) inferInstance ?_
        rotate_left
        · (go_simp; try with_reducible rfl)
        try simp only [Act.put, sA]; try simp only [sB, sC]
        refine' takeH (i := 2) (v := _) rfl (by kernel_rfl) (by kernel_rfl) (by kernel_rfl) (fun _ _ _ h => h) (yields_of (by rfl) (fun w' _ => ?_)) inferInstance ?_
        rotate_left
        · ((with_reducible apply ev_loadrow); (exact rfl); infer_instance; infer_instance; (exact repL_len _ _ _ _ _))
        try simp only [Act.put, sA]; try simp only [sB, sC]
        refine goH (i := 3) (by kernel_rfl) rfl (fun K_ hK_ => ?_)
        rw [if_pos (by kernel_rfl)]
        refine wpr_of_list ?_
        (first | ((with_reducible apply wpl_nilR); (exact rfl); (exact hAn)) | ((with_reducible apply (wpl_storeC (α := EnrR) (k := j) (j := 34) (s := 71))); (exact rfl); (exact rfl); infer_instance; infer_instance; (exact rfl); (exact rfl); (exact hkl); (decide); (exact HE1.out); intro wx stx hax) | ((with_reducible apply (wpl_storeQ (α := EnrR) (k := j) (j := 35) (s := 71) (m := 36))); (exact rfl); (exact rfl); (exact hax); infer_instance; (exact repL_len _ _ _ _ _); (decide); (exact (repL_one _ _ _ _ _)); (exact rfl); (exact hkl2); (decide); (exact HE2.out); intro wy sty hay))
        refine wpList_nil ?_
        unfold onlyN
        refine hK_.out _ _ inferInstance (fun _ => ?_)
        clear hK_ K_
        try simp only [Act.put, sA]; try simp only [sB, sC]
        refine goH (i := 4) (by kernel_rfl) rfl (fun K_ hK_ => ?_)
        rw [if_pos (by kernel_rfl)]
        refine wpr_of_list ?_
        (first | ((with_reducible apply wpl_nilR); (exact rfl); (exact hAn)) | ((with_reducible apply (wpl_storeC (α := EnrR) (k := j) (j := 34) (s := 71))); (exact rfl); (exact rfl); infer_instance; infer_instance; (exact rfl); (exact rfl); (exact hkl); (decide); (exact HE1.out); intro wx stx hax) | ((with_reducible apply (wpl_storeQ (α := EnrR) (k := j) (j := 35) (s := 71) (m := 36))); (exact rfl); (exact rfl); (exact hax); infer_instance; (exact repL_len _ _ _ _ _); (decide); (exact (repL_one _ _ _ _ _)); (exact rfl); (exact hkl2); (decide); (exact HE2.out); intro wy sty hay) | ((with_reducible apply (wpl_fieldE (t := 59))); (exact Tryz.underlying59); (exact rfl); (kernel_rfl); (exact rfl); infer_instance; (exact cells_pos (by decide) (by omega))) | ((with_reducible apply (wpl_fieldE (t := 43))); (exact Tryz.underlying43); (exact rfl); (kernel_rfl); (exact rfl); infer_instance; (exact cells_pos (by decide) (by omega))))
        refine wpList_nil ?_
        unfold onlyN
        refine hK_.out _ _ inferInstance (fun _ => ?_)
        clear hK_ K_
        try simp only [Act.put, sA]; try simp only [sB, sC]
        refine goH (i := 5) (by kernel_rfl) rfl (fun K_ hK_ => ?_)
        rw [if_pos (by kernel_rfl)]
        refine wpr_of_list ?_
        (first | ((with_reducible apply wpl_nilR); (exact rfl); (exact hAn)) | ((with_reducible apply (wpl_storeC (α := EnrR) (k := j) (j := 34) (s := 71))); (exact rfl); (exact rfl); infer_instance; infer_instance; (exact rfl); (exact rfl); (exact hkl); (decide); (exact HE1.out); intro wx stx hax) | ((with_reducible apply (wpl_storeQ (α := EnrR) (k := j) (j := 35) (s := 71) (m := 36))); (exact rfl); (exact rfl); (exact hax); infer_instance; (exact repL_len _ _ _ _ _); (decide); (exact (repL_one _ _ _ _ _)); (exact rfl); (exact hkl2); (decide); (exact HE2.out); intro wy sty hay) | ((with_reducible apply wpl_storerow); (exact rfl); (exact rfl); infer_instance; infer_instance; (first | (with_reducible assumption) | (with_reducible exact H32.size _) | (with_reducible exact enc_sz _ rfl) | kernel_rfl); (first | (with_reducible assumption) | (with_reducible exact H32.size _) | (with_reducible exact enc_sz _ rfl) | kernel_rfl); (first | (with_reducible exact u8s_one _) | (with_reducible assumption) | (with_reducible exact enc_one _) | kernel_rfl); intro ws _ _) | ((with_reducible apply wpl_storecell); (exact rfl); (exact rfl); infer_instance; (exact rfl); (first | (with_reducible assumption) | omega | (focus (simp; done)) | (focus (simp; omega; done)) | decide); intro ws _ _) | ((with_reducible apply (wpl_storehash (t := 26))); (exact rfl); (exact rfl); infer_instance; infer_instance; (first | (with_reducible assumption) | omega | (focus (simp; done)) | (focus (simp; omega; done)) | decide); intro ws _ _) | ((with_reducible apply (wpl_storebyteH (t := 5))); (exact rfl); (exact rfl); infer_instance; (first | (with_reducible assumption) | omega); (first | (with_reducible assumption) | omega); (first | (constructor <;> omega) | exact xor_u8_in _ _); intro ws _ _) | ((with_reducible apply (wpl_storeint (t := 3))); (exact rfl); (exact rfl); infer_instance; (first | (with_reducible assumption) | omega); intro ws _ _) | ((with_reducible apply (wpl_storebyte (t := 5))); (exact rfl); (exact rfl); infer_instance; (first | (with_reducible assumption) | omega | (focus (simp; done)) | (focus (simp; omega; done)) | decide); (constructor <;> omega); intro ws _ _))
        refine wpList_nil ?_
        unfold onlyN
        refine hK_.out _ _ inferInstance (fun _ => ?_)
        clear hK_ K_
        try simp only [Act.put]
        refine goH (i := 6) (by kernel_rfl) rfl (fun K_ hK_ => ?_)
        rw [if_pos (by kernel_rfl)]
        refine wpr_of_list ?_
        (first | ((with_reducible apply wpl_nilR); (exact rfl); (exact hAn)) | ((with_reducible apply (wpl_storeC (α := EnrR) (k := j) (j := 34) (s := 71))); (exact rfl); (exact rfl); infer_instance; infer_instance; (exact rfl); (exact rfl); (exact hkl); (decide); (exact HE1.out); intro wx stx hax) | ((with_reducible apply (wpl_storeQ (α := EnrR) (k := j) (j := 35) (s := 71) (m := 36))); (exact rfl); (exact rfl); (exact hax); infer_instance; (exact repL_len _ _ _ _ _); (decide); (exact (repL_one _ _ _ _ _)); (exact rfl); (exact hkl2); (decide); (exact HE2.out); intro wy sty hay))
        refine wpList_nil ?_
        unfold onlyN
        refine hK_.out _ _ inferInstance (fun _ => ?_)
        clear hK_ K_
        try simp only [Act.put, sA]; try simp only [sB, sC]
        refine goH (i := 7) (by kernel_rfl) rfl (fun K_ hK_ => ?_)
        rw [if_pos (by kernel_rfl)]
        refine wpr_of_list ?_
        (first | ((with_reducible apply wpl_nilR); (exact rfl); (exact hAn)) | ((with_reducible apply (wpl_storeC (α := EnrR) (k := j) (j := 34) (s := 71))); (exact rfl); (exact rfl); infer_instance; infer_instance; (exact rfl); (exact rfl); (exact hkl); (decide); (exact HE1.out); intro wx stx hax) | ((with_reducible apply (wpl_storeQ (α := EnrR) (k := j) (j := 35) (s := 71) (m := 36))); (exact rfl); (exact rfl); (exact hax); infer_instance; (exact repL_len _ _ _ _ _); (decide); (exact (repL_one _ _ _ _ _)); (exact rfl); (exact hkl2); (decide); (exact HE2.out); intro wy sty hay) | ((with_reducible apply (wpl_fieldE (t := 59))); (exact Tryz.underlying59); (exact rfl); (kernel_rfl); (exact rfl); infer_instance; (exact cells_pos (by decide) (by omega))) | ((with_reducible apply (wpl_fieldE (t := 43))); (exact Tryz.underlying43); (exact rfl); (kernel_rfl); (exact rfl); infer_instance; (exact cells_pos (by decide) (by omega))))
        refine wpList_nil ?_
        unfold onlyN
        refine hK_.out _ _ inferInstance (fun _ => ?_)
        clear hK_ K_
        try simp only [Act.put, sA]; try simp only [sB, sC]
        refine goH (i := 8) (by kernel_rfl) rfl (fun K_ hK_ => ?_)
        rw [if_pos (by kernel_rfl)]
        refine wpr_of_list ?_
        (first | ((with_reducible apply wpl_nilR); (exact rfl); (exact hAn)) | ((with_reducible apply (wpl_storeC (α := EnrR) (k := j) (j := 34) (s := 71))); (exact rfl); (exact rfl); infer_instance; infer_instance; (exact rfl); (exact rfl); (exact hkl); (decide); (exact HE1.out); intro wx stx hax) | ((with_reducible apply (wpl_storeQ (α := EnrR) (k := j) (j := 35) (s := 71) (m := 36))); (exact rfl); (exact rfl); (exact hax); infer_instance; (exact repL_len _ _ _ _ _); (decide); (exact (repL_one _ _ _ _ _)); (exact rfl); (exact hkl2); (decide); (exact HE2.out); intro wy sty hay) | ((with_reducible apply wpl_storerow); (exact rfl); (exact rfl); infer_instance; infer_instance; (first | (with_reducible assumption) | (with_reducible exact H32.size _) | (with_reducible exact enc_sz _ rfl) | kernel_rfl); (first | (with_reducible assumption) | (with_reducible exact H32.size _) | (with_reducible exact enc_sz _ rfl) | kernel_rfl); (first | (with_reducible exact u8s_one _) | (with_reducible assumption) | (with_reducible exact enc_one _) | kernel_rfl); intro ws _ _) | ((with_reducible apply wpl_storecell); (exact rfl); (exact rfl); infer_instance; (exact rfl); (first | (with_reducible assumption) | omega | (focus (simp; done)) | (focus (simp; omega; done)) | decide); intro ws _ _) | ((with_reducible apply (wpl_storehash (t := 26))); (exact rfl); (exact rfl); infer_instance; infer_instance; (first | (with_reducible assumption) | omega | (focus (simp; done)) | (focus (simp; omega; done)) | decide); intro ws _ _) | ((with_reducible apply (wpl_storebyteH (t := 5))); (exact rfl); (exact rfl); infer_instance; (first | (with_reducible assumption) | omega); (first | (with_reducible assumption) | omega); (first | (constructor <;> omega) | exact xor_u8_in _ _); intro ws _ _) | ((with_reducible apply (wpl_storeint (t := 3))); (exact rfl); (exact rfl); infer_instance; (first | (with_reducible assumption) | omega); intro ws _ _) | ((with_reducible apply (wpl_storebyte (t := 5))); (exact rfl); (exact rfl); infer_instance; (first | (with_reducible assumption) | omega | (focus (simp; done)) | (focus (simp; omega; done)) | decide); (constructor <;> omega); intro ws _ _))
        refine wpList_nil ?_
        unfold onlyN
        refine hK_.out _ _ inferInstance (fun _ => ?_)
        clear hK_ K_
        try simp only [Act.put]
        refine wpAnyH_done (by kernel_rfl) ?_ _
        all_goals
          have hfin : HO wy 59 71 A n c (cellsOf (L.set j ((gt L j).setT true P))) := by
            rw [← HG.out]
            exact hay
          have hlen : (L.set j ((gt L j).setT true P)).length = n := by rw [List.length_set]; exact HL.out
          go_wp2_with fail
          go_ret
          have hdf : HB wy zd 50 #[.pointer (some ⟨zr, 0, none⟩), .slice A n c] := inferInstance
          have hrf : HB wy zr 84 (rpL sd p0 p1 f g v (.slice B m d :: suf)).toArray := inferInstance
          have hbf : HO wy 76 37 B m d (cellsOf T) := inferInstance
          exact ⟨rfl, inferInstance, stepC, hdf, hfin, hlen, hrf, hbf, hm, hs, zz, az, bz, ld, lr, la, lb⟩
end Go.Proofs.YtmnapacibpnodaaGreat
