/- KyN -/
import Derived.Test.YthcleccofccbdaaTrKyM
import Derived.Test.YthcleccofccbdaaTrRdD
import Derived.Test.YthcleccofccbdaaTrWzE
open Go Go.RowKit
namespace Go.Proofs.Ythcleccofccbdaa
def RS.hash (s : RS) : H32 := if h : (s.raw 32).1.length = 32 then ⟨(s.raw 32).1, h⟩ else zeroH
def RS.hAt (s : RS) : Nat → RS
  | 0 => s
  | k + 1 => ((s.hAt k).raw 32).2
def RS.hs (s : RS) : Nat → List H32
  | 0 => []
  | k + 1 => s.hs k ++ [(s.hAt k).hash]
theorem RS.hs_len (s : RS) (k : Nat) : (s.hs k).length = k := by
  induction k with
  | zero => rfl
  | succ k ih => rw [RS.hs, List.length_append, ih]; rfl
theorem RS.raw_cases (s : RS) : (s.raw 32).1.length = 32 ∨ (s.raw 32).1 = [] := by
  unfold RS.raw
  split
  · exact .inr rfl
  · rename_i h
    refine .inl ?_
    show (s.b.take (32 : Int).toNat).length = 32
    rw [List.length_take]
    have : ¬ (s.b.length : Int) < 32 := fun h2 => h (.inr (.inr h2))
    omega
theorem RS.raw_le' (s : RS) (i : Int) : (s.raw i).2.b.length ≤ s.b.length := by
  unfold RS.raw
  split
  · exact Nat.zero_le _
  · show (s.b.drop i.toNat).length ≤ _
    rw [List.length_drop]; omega
theorem RS.hAt_le (s : RS) (k : Nat) : (s.hAt k).b.length ≤ s.b.length := by
  induction k with
  | zero => exact Nat.le_refl _
  | succ k ih => exact Nat.le_trans (RS.raw_le' _ _) ih
theorem cellsOf_flat (l : List H32) : cellsOf l = bs (kflatH l) := by
  induction l with
  | nil => rfl
  | cons h l ih =>
    show bs h.l ++ cellsOf l = bs (h.l ++ kflatH l)
    rw [ih, bs_append]
theorem HO.whole {w : World} {e : TypeId} {z n : Nat} {l : List H32} (h : HO w e 32 (some ⟨z, 0, none⟩) n n (cellsOf l)) : HB w z e (u8s (kflatH l)) := ⟨by
  rcases h.out.form with ⟨hn, _⟩ | ⟨g, cur, e1, hb, _, _, hsz, hx⟩
  · cases hn
  · injection e1 with e1
    injection e1 with e1
    subst e1
    have : cur = u8s (kflatH l) := by
      apply Array.ext'
      rw [List.take_of_length_le (by rw [Array.length_toList, hsz]; exact Nat.le_refl _)] at hx
      rw [hx, cellsOf_flat]
      simp [u8s]
    rw [← this]
    exact hb⟩
theorem HB.hashes {w : World} {e : TypeId} {z n : Nat} {l : List H32} (h : HB w z e (u8s (kflatH l))) (hl : l.length = n) (hn : n ≤ 1000) : HO w e 32 (some ⟨z, 0, none⟩) n n (cellsOf l) := ⟨by
  refine Own.of_blk h.out (Nat.le_refl _) (by unfold maxLen; omega) (by rw [u8s_size, kflatH_len, hl, Nat.mul_comm]) ?_
  rw [cellsOf_flat]
  show (bs (kflatH l)).take _ = _
  exact List.take_of_length_le (by rw [bs_length, kflatH_len, hl, Nat.mul_comm]; exact Nat.le_refl _)⟩
section
variable {P : Program} {ops : Array Oper} {a : Act} {w : World} {dst : Option Tmp} {ty : TypeId} {pos : String} {after : Array Edge} {gd : Option (Nat × Bool)}
/-- an array inside a row, as a slice -/
theorem ev_sl_arr {t e : TypeId} {x : Operand} {g k m : Nat} (hx : a.eval x = ptrOf (some ⟨g, 0, none⟩) k) (hu : P.underlying t = some (.array m e)) (hs : (P.info? e).map (·.size) = some 1) :
    (execOp a.eval ⟨dst, .slice t x none none none, ty, pos, after, gd⟩).run P w = .ok (.value (.slice (some ⟨g, k, none⟩) m m)) w := by
  show ((Instr.sliceAt t (a.eval x) none none none) >>= fun v => pure (Next.value v)).run P w = _
  rw [hx, ptrOf, shift_some, add_row]
  cases hq : P.info? e with
  | none => rw [hq] at hs; simp at hs
  | some i => simp [Instr.sliceAt, run_underlying hu, Instr.sureAddr, Instr.sliceBounds, sizeOf, typeInfo, hq, add_zero_spot]
end
def gz (g z : Nat) : Nat → Prop := fun x => x = g ∨ x = z
instance (w : World) (g z : Nat) : Sub w (only g) (gz g z) := ⟨fun _ _ h => .inl h⟩
instance (w : World) (g z : Nat) : Sub w (only z) (gz g z) := ⟨fun _ _ h => .inr h⟩
/-- the digests that are taken, and noughts for those that are not yet -/
def curH (s : RS) (n k : Nat) : List H32 := s.hs k ++ List.replicate (n - k) zeroH
theorem curH_len (s : RS) (n k : Nat) (h : k ≤ n) : (curH s n k).length = n := by
  rw [curH, List.length_append, RS.hs_len, List.length_replicate]; omega
theorem curH_next (s : RS) (n k m : Nat) (h : k < n) (hm : m = ((s.hAt k).raw 32).1.length) : (kflatH (curH s n k)).take (k * 32) ++ ((s.hAt k).raw 32).1 ++ (kflatH (curH s n k)).drop (k * 32 + m) = kflatH (curH s n (k + 1)) := by
  subst hm
  have e1 : kflatH (curH s n k) = kflatH (s.hs k) ++ (zeroH.l ++ kflatH (List.replicate (n - (k + 1)) zeroH)) := by
    rw [curH, kflatH_app, show n - k = (n - (k + 1)) + 1 by omega, List.replicate_succ]
    rfl
  have l1 : (kflatH (s.hs k)).length = k * 32 := by rw [kflatH_len, RS.hs_len, Nat.mul_comm]
  have e2 : kflatH (curH s n (k + 1)) = kflatH (s.hs k) ++ ((s.hAt k).hash.l ++ kflatH (List.replicate (n - (k + 1)) zeroH)) := by
    rw [curH, kflatH_app, RS.hs, kflatH_app, List.append_assoc]
    congr 1
    show ((s.hAt k).hash.l ++ []) ++ _ = _
    rw [List.append_nil]
  rw [e1, e2, List.take_left' l1, ← List.drop_drop, List.drop_left' l1, List.append_assoc]
  congr 1
  rcases RS.raw_cases (s.hAt k) with hc | hc
  · rw [hc]
    have e3 : (s.hAt k).hash.l = ((s.hAt k).raw 32).1 := by rw [RS.hash, dif_pos hc]
    rw [e3, List.drop_left' zeroH.len]
  · have e3 : (s.hAt k).hash = zeroH := by rw [RS.hash, dif_neg (by rw [hc]; decide)]
    rw [hc, e3]
    rfl
set_option maxRecDepth 100000 in
set_option maxHeartbeats 1600000 in
theorem ktake_calls {g d n : Nat} {s : RS} {fx : FuncId} {w : World} (hf : fx = 184) (hw : RdrAt w g d s) (hl : s.b.length ≤ 1000000000) (hn : n ≤ 100) :
    Calls Try.prog 221 #[.func (.func fx) #[.pointer (some ⟨g, 0, none⟩)] #[], .int .i64 (n : Int)] w fun e w' => ∃ z, e = .returned (.slice (some ⟨z, 0, none⟩) n n) ∧ Step (only g) w w' ∧ w.heap.size ≤ z ∧ HO w' 78 32 (some ⟨z, 0, none⟩) n n (cellsOf (s.hs n)) ∧ RdrAt w' g d (s.hAt n) := by
  subst hf
  have HW0 := Lib.hid hw
  have HL := Lib.hid hl
  go_enter Try.func221, Try.ntmps221
  go_wp2_with (first | ((with_reducible apply wpl_makehash); (exact rfl); (exact rfl); infer_instance; omega; intro zm wm _ _ _))
  have hm : HO wm 78 32 (some ⟨zm, 0, none⟩) n n (cellsOf (List.replicate n zeroH)) := inferInstance
  have HZM := Lib.hid (inferInstance : Born w zm).eq
  have hbm := hm.whole
  have hst : Step nowhere w wm := stepN
  have HRM : Hid (RdrAt wm g d s) := Lib.hid (HW0.out.chg hst.chg (fun h => h) (fun h => h))
  have hgm : g < w.heap.size := HW0.out.lt
  have hdm : s.b ≠ [] → d < w.heap.size := HW0.out.dlt
  have e0 : kflatH (List.replicate n zeroH) = kflatH (curH s n 0) := by rw [curH, RS.hs, Nat.sub_zero]; rfl
  rw [e0] at hbm
  clear hm e0
  go_wp2_with fail
  go_loopw [11] (fun iv wr => ∃ k : Nat, k ≤ n ∧ iv = .int .i64 (k : Int) ∧ Hid (RdrAt wr g d (s.hAt k)) ∧ HB wr zm 78 (u8s (kflatH (curH s n k))) ∧ Hid (Chg (gz g zm) w wr)) (fun iv _ => n - (intOf iv).toNat)
  case atStart => exact ⟨0, Nat.zero_le _, rfl, HRM, hbm, Lib.hid (hst.chg.mono (fun _ _ h => h.elim))⟩
  case round =>
    clear hbm HRM hst
    obtain ⟨k, hk, rfl, HR1, hbk, HC1⟩ := hrel
    by_cases hlt : k < n
    · have hltI : (k : Int) < n := by omega
      have hcl : (kflatH (curH s n k)).length = 32 * n := by rw [kflatH_len, curH_len s n k hk]
      have hle := s.hAt_le k
      have hl9 : (s.hAt k).b.length ≤ 140737488351232 := by have := HL.out; omega
      go_wp2_with (first | fail)
      have ob : OffB (only g) zm := ⟨fun e => by have e' : zm = g := e; have := HZM.out; omega⟩
      refine wp_region_N ((gz g zm)) (by kernel_rfl) (fun wd _ _ => ?_)
      refine' takeH (i := 0) (v := _) rfl (by kernel_rfl) (by kernel_rfl) (by kernel_rfl) (fun _ _ _ h => h) (yields_of (by rfl) (fun w' _ => ?_)) inferInstance ?_
      rotate_left
      · (go_simp; try with_reducible rfl)
      try simp only [Act.put, sA]; try simp only [sB, sC]
      refine' takeH (i := 1) (v := _) rfl (by kernel_rfl) (by kernel_rfl) (by kernel_rfl) (fun _ _ _ h => h) (yields_of (by rfl) (fun w' _ => ?_)) inferInstance ?_
      rotate_left
      · (go_simp; try with_reducible rfl)
      try simp only [Act.put, sA]; try simp only [sB, sC]
      refine' takeH (i := 2) (v := _) rfl (by kernel_rfl) (by kernel_rfl) (by kernel_rfl) (fun _ _ _ h => h) (yields_of (by rfl) (fun w' _ => ?_)) inferInstance ?_
      rotate_left
      · (first | ((with_reducible apply ev_indexSN); (exact rfl); (exact rfl); infer_instance; (first | (with_reducible assumption) | omega)) | ((with_reducible apply ev_indexS); (exact rfl); (exact rfl); infer_instance; (first | (with_reducible assumption) | omega); (first | (with_reducible assumption) | omega)) | ((with_reducible apply ev_indexArr); (exact rfl); (exact rfl); (exact Try.underlying78); (kernel_rfl); (first | (with_reducible assumption) | omega); (first | (with_reducible assumption) | omega)) | ((with_reducible apply ev_indexH'); (exact rfl); (exact rfl); infer_instance; infer_instance; (first | (with_reducible assumption) | omega); (first | (with_reducible assumption) | omega); (first | (with_reducible assumption) | omega)) | ((with_reducible apply ev_indexH); (exact rfl); (exact rfl); infer_instance; infer_instance; (first | (with_reducible assumption) | omega); (first | (with_reducible assumption) | omega)) | (go_simp; try with_reducible rfl))
      try simp only [Act.put, sA]; try simp only [sB, sC]
      refine' takeH (i := 3) (v := _) rfl (by kernel_rfl) (by kernel_rfl) (by kernel_rfl) (fun _ _ _ h => h) (yields_of (by rfl) (fun w' _ => ?_)) inferInstance ?_
      rotate_left
      · (first | ((with_reducible apply ev_sl_arr); (exact rfl); (exact Try.underlying78); (kernel_rfl)) | ((with_reducible apply ev_sl_lh); (exact rfl); (exact rfl); (exact rfl); infer_instance; (first | (with_reducible assumption) | omega); (first | (with_reducible assumption) | omega)) | ((with_reducible apply ev_sl_h); (exact rfl); (exact rfl); infer_instance; (first | (with_reducible assumption) | omega)) | ((with_reducible apply ev_sl_l); (exact rfl); (exact rfl); infer_instance; (first | (with_reducible assumption) | omega)) | (go_simp; try with_reducible rfl))
      try simp only [Act.put, sA]; try simp only [sB, sC]
      refine' takeH (i := 4) (v := _) rfl (by kernel_rfl) (by kernel_rfl) (by kernel_rfl) (fun _ _ _ h => h) (yields_of (by rfl) (fun w' _ => ?_)) inferInstance ?_
      rotate_left
      · (go_simp; try with_reducible rfl)
      try simp only [Act.put, sA]; try simp only [sB, sC]
      refine goH (i := 5) (by kernel_rfl) rfl (fun K_ hK_ => ?_)
      go_simp
      refine (Raw_calls g d (s.hAt k) 32 wd (HR1.out.chg (stepN (w0 := wr) (w := wd)).chg (fun h => h) (fun h => h)) hl9).mono ?_
      rintro e w5 ⟨A5, n5, c5, rfl, hn5, ho5, h5, cc5, hA5⟩
      have st5 : Step (only g) wd w5 := ⟨cc5.out⟩
      have hr5 : HR w5 A5 (bs ((s.hAt k).raw 32).1) := ⟨ho5.out.rd⟩
      have hle5 : n5 ≤ 32 := by
        have := hn5.out
        rcases (s.hAt k).raw_cases with h | h
        · omega
        · rw [h] at this; simp at this; omega
      have hfit5 : k * 32 + n5 ≤ (kflatH (curH s n k)).length := by rw [hcl]; omega
      refine hK_.out _ _ inferInstance (fun _ => ?_)
      clear hK_ K_
      try simp only [Act.put, sA]; try simp only [sB, sC]
      refine goH (i := 6) (by kernel_rfl) rfl (fun K_ hK_ => ?_)
      rw [if_pos (by kernel_rfl)]
      refine wpr_of_list ?_
      (first | ((with_reducible apply wpl_copy); (exact Try.underlying28); (kernel_rfl); (exact rfl); (exact rfl); infer_instance; (exact hr5); (exact hn5.out.symm); (exact hle5); (exact hfit5); intro wc _ hbc) | ((with_reducible apply wpl_copy); (exact Try.underlying28); (kernel_rfl); (exact rfl); (exact rfl); infer_instance; infer_instance; (first | (with_reducible assumption) | (with_reducible exact H32.len _) | (focus (simp; done))); (first | (with_reducible assumption) | omega); (first | (with_reducible assumption) | omega | (focus (simp; done)) | (focus (simp; omega; done)) | decide); intro wc _ _))
      refine wpList_nil ?_
      unfold onlyN
      refine hK_.out _ _ inferInstance (fun _ => ?_)
      clear hK_ K_
      try simp only [Act.put, sA]; try simp only [sB, sC]
      refine wpAnyH_done (by kernel_rfl) ?_ _
      have hnx := curH_next s n k n5 hlt hn5.out
      rw [hnx] at hbc
      have HR2 : Hid (RdrAt wc g d (s.hAt (k + 1))) := Lib.hid (h5.out.chg2 (inferInstance : Step (only zm) w5 wc).chg (fun e => by have e' : g = zm := e; have := HZM.out; omega) (fun hne e => by
        have e' : d = zm := e
        have hz := HZM.out
        have := hdm (fun h0 => hne (List.eq_nil_of_length_eq_zero (by have := s.hAt_le (k + 1); rw [h0] at this; simpa [RS.hAt] using this)))
        omega))
      have HC2 : Hid (Chg (gz g zm) w wc) := Lib.hid (HC1.out.trans (((stepN (w0 := wr) (w := wd)).chg.mono (T := gz g zm) (fun _ _ h => h.elim)).trans ((cc5.out.mono (T := gz g zm) (fun _ _ h => .inl h)).trans ((inferInstance : Step (only zm) w5 wc).chg.mono (T := gz g zm) (fun _ _ h => .inr h)) (fun _ _ h => h)) (fun _ _ h => h)) (fun _ _ h => h))
      clear hnx
      go_wp2_with fail
      exact ⟨⟨k + 1, by omega, by go_num, HR2, hbc, HC2⟩, by simp [intOf]; omega⟩
    · obtain rfl : k = n := by omega
      have hltI : (k : Int) ≤ k := by omega
      have e9 : curH s k k = s.hs k := by rw [curH, Nat.sub_self]; simp
      rw [e9] at hbk
      have hO := hbk.hashes (s.hs_len k) (by omega)
      go_wp2_with fail
      go_ret
      exact ⟨zm, rfl, ⟨HC1.out.mono (fun x hx h => by
        rcases h with h | h
        · exact h
        · have := HZM.out
          omega)⟩, Nat.le_of_eq HZM.out.symm, hO, HR1.out⟩
end Go.Proofs.Ythcleccofccbdaa
