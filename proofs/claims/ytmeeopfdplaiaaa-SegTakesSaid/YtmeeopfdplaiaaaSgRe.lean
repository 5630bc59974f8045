/- The reference's more: a part that fits. -/
import Derived.Test.YtmeeopfdplaiaaaSgRd
open Go Go.RowKit
namespace Go.Proofs.Ytmeeopfdplaiaaa
/-- one that is open has grown -/
theorem XS.setDone {w w' : World} {z : Nat} {X : Nat → Prop} {s s' : St} (h : XS w z X s) {l : List OM} {LA : Option Addr} {n lc i : Nat} (hn : l.length = n) (hi : ∀ ad, LA = some ad → X ad.block) (hr : OOk w l)
    (hx : ∀ o ∈ l, o.b ≠ [] → ∀ ad, o.A = some ad → X ad.block ∧ ad.block ≠ z ∧ ∀ ld, LA = some ld → ad.block ≠ ld.block) (hC : Chg (rowOf LA) w w') {o : OM} (hB : HB w' z 38 #[.slice LA n lc, .int .i64 s.N])
    (hO : HO w' 90 5 LA n lc (cellsOf (l.set i o))) (h5 : HO w' 5 1 o.A o.b.length o.c (bs o.b)) (hn5 : NewA w o.A) (hR : OR s' (l.set i o)) (hs : s'.N = s.N) : XS w' z (fun x => X x ∨ rowOf o.A x) s' := by
  subst hn
  rw [← hs] at hB
  have hlen : l.length = (l.set i o).length := by simp
  rw [hlen] at hB hO
  have hsz := hC.size
  have hold : ∀ q ∈ l, q.b ≠ [] → ∀ ad, q.A = some ad → ¬ rowOf LA ad.block := fun q hq hb ad e ⟨ld, e2, hk⟩ => (hx q hq hb ad e).2.2 ld e2 hk.symm
  refine ⟨.inl h.inz, fun x hx => hx.elim (fun h' => Nat.lt_of_lt_of_le (h.low x h') hsz) (fun ⟨ad, e, hk⟩ => by rw [← hk]; exact h5.out.lt e), l.set i o, LA, lc, hB.out, hO.out, fun ad e => .inl (hi ad e), fun q hq => ?_, fun q hq hb ad e => ?_, hR⟩
  · rcases List.mem_or_eq_of_mem_set hq with hq | hq
    · exact ⟨(hr q hq).1.chg hC (fun hne ad e => hold q hq (fun h0 => hne (by rw [h0]; rfl)) ad e), (hr q hq).2⟩
    · subst hq
      exact ⟨h5.out.rd, own_cap h5.out⟩
  · rcases List.mem_or_eq_of_mem_set hq with hq | hq
    · obtain ⟨h1, h2, h3⟩ := hx q hq hb ad e
      exact ⟨.inl h1, h2, h3⟩
    · subst hq
      have h1 := hn5.out ad e
      refine ⟨.inr ⟨ad, e, rfl⟩, fun k => ?_, fun ld e2 k => ?_⟩
      · have := h.low z h.inz
        omega
      · have := h.low _ (hi ld e2)
        omega
theorem wpl_storeO2 {ops : Array Oper} {rest : List Oper} {a : Act} {w : World} {Q : Exit → Act → World → Prop} {dst : Option Tmp} {ty : TypeId} {pos : String} {after : Array Edge} {x y : Operand} {A : Option Addr} {k nb : Nat} {nx : Int} (o : OM) (hx : a.eval x = ptrOf A (k * 5)) (hy : a.eval y = .agg #[.int .i64 o.id, .int .i64 (o.want : Int), .int .i64 nx, .int .i64 o.last, .slice o.A nb o.c]) (h1 : nx = (o.next : Int)) (h2 : o.b.length = nb) {e : TypeId} {n c : Nat} {l : List OM} (ho : HO w e 5 A n c (cellsOf l)) (hk : k < l.length)
    (h : ∀ w', Step (rowOf A) w w' → HO w' e 5 A n c (cellsOf (l.set k o)) → wpList Try.prog ops Q rest (a.put dst undef) w') : wpList Try.prog ops Q (⟨dst, .store 90 x y, ty, pos, after, none⟩ :: rest) a w := by
  subst h1 h2
  exact wpl_storeO (o := o) hx hy ho hk h
theorem put_del {s : St} {k : Int} {v u : Msg} (h : s.G k = some v) : (s.put k u).del k = s.del k := by
  obtain ⟨G, m, N⟩ := s
  simp only [St.put, St.del] at *
  rw [h]
  simp only [Option.isSome_some, if_pos]
  congr 1
  funext x
  split <;> rfl
set_option maxRecDepth 100000 in
set_option maxHeartbeats 3200000 in
theorem rmore2_calls (id now : Int) {A : Option Addr} {n c num : Nat} {d : List UInt8} {v : Msg} {w : World} {z : Nat} {X : Nat → Prop} {s : St} (h : XS w z X s) (hm : s.m ≤ 900000) (hp : Rd w A (bs d)) (hn : d.length = n) (hc : n ≤ c) (h0 : 0 < n) (hn2 : n ≤ 1000)
    (hnum : (bget d 0).toNat % 16 = num) (hG : s.G id = some v) (hlt : v.b.length < v.whole) (hgood : num = v.next ∧ n - 1 = min (v.whole - v.b.length) 7) (h3 : -9223372036854775808 ≤ now) (h4 : now ≤ 9223372036854775807) :
    Calls Try.prog 35 #[.pointer (some ⟨z, 0, none⟩), .agg #[.int .i64 id, .slice A n c], .int .i64 now] w (XTk z X w (furtherS s id num (d.drop 1) now)) := by
  have hR : HR w A (bs d) := ⟨hp⟩
  obtain ⟨l, LA, lc, hb, hO0, hi0, hr, hx, hq⟩ := h.mem
  obtain ⟨m, hlm⟩ : ∃ m, l.length = m := ⟨_, rfl⟩
  rw [hlm] at hb hO0
  have hB : HB w z 38 #[.slice LA m lc, .int .i64 s.N] := ⟨hb⟩
  have hO : HO w 90 5 LA m lc (cellsOf l) := ⟨hO0⟩
  have hm2 : m ≤ 900000 := by rw [← hlm, hq.m]; exact hm
  obtain ⟨i, hil, hid, habs⟩ := hq.hit hG
  have hsm := hq.sm i hil
  rcases hg : gt l i with ⟨oid, wh, nx, la, pA, pc, vb⟩
  rw [hg] at hid habs hsm
  obtain rfl : oid = id := hid
  obtain ⟨k1, k2, k3, k4, k5⟩ := hsm
  simp only at k1 k2 k3 k4 k5
  obtain ⟨nb, hnb⟩ : ∃ x, vb.length = x := ⟨_, rfl⟩
  obtain ⟨mq, hmq⟩ : ∃ mq, min (wh - nb) 7 = mq := ⟨_, rfl⟩
  have hsp0 : furtherS s oid num (d.drop 1) now = if num ≠ nx % 16 ∨ n - 1 ≠ mq then (s.drop oid, none) else if nb + (n - 1) = wh then (s.del oid, some (vb ++ d.drop 1)) else (s.put oid ⟨vb ++ d.drop 1, wh, (nx % 16 + 1) % 16, now⟩, none) := by
    unfold furtherS
    rw [hG, ← habs]
    show (if num ≠ nx % 16 ∨ (d.drop 1).length ≠ min (wh - vb.length) 7 then _ else if (vb ++ d.drop 1).length = wh then _ else _) = _
    rw [List.length_append, List.length_drop, hn, hnb, hmq]
    rfl
  rw [hnb] at k1 k3
  have HM := Lib.hid (show min (7 : Int) ((wh : Int) - (nb : Int)) = (mq : Int) by omega)
  have hmq7 : mq ≤ 7 := by omega
  have HNB := Lib.hid hnb
  have HGT := Lib.hid hg
  have HG := Lib.hid hG
  have hd2 : (bget d 0).toNat < 256 := (bget d 0).toNat_lt
  have E1 : IntKind.i64.wrap (bits .and .u8 ((bget d 0).toNat : Int) 15) = (num : Int) := by rw [andu8 _ hd2, hnum, IntKind.wrap_i64]; omega
  have E2 : bits .and .i64 (nx : Int) 15 = ((nx % 16 : Nat) : Int) := andi64 nx (by omega)
  have E3 : IntKind.i64.wrap (1 + (mq : Int)) = 1 + (mq : Int) := by rw [IntKind.wrap_i64]; omega
  have hlt2 : nb < wh := by
    rw [← habs] at hlt
    rw [← hnb]
    exact hlt
  have hgood2 : num = nx % 16 ∧ n - 1 = mq := by
    rw [← habs] at hgood
    rw [← hmq, ← hnb]
    exact hgood
  obtain ⟨c1, c2⟩ := hgood2
  rw [hsp0, if_neg (by omega)]
  obtain ⟨pd, hpd⟩ : ∃ x, d.drop 1 = x := ⟨_, rfl⟩
  have hpl : pd.length = n - 1 := by rw [← hpd, List.length_drop, hn]
  have hRc : HR w (cutA A 1 c 1) (bs pd) := by rw [← hpd]; exact HR.cutB hR hn hc 1
  rw [hpd]
  have hRw : HR w pA (bs vb) := ⟨by have q := (hr _ (gt_mem l i hil)).1; rw [hg] at q; exact q⟩
  have hfit : nb + (n - 1) ≤ wh := by omega
  have hmore : 1 ≤ n - 1 := by omega
  have hR2 := fun A7 c7 => hq.set (i := i) hil (o := ⟨oid, wh, nx + 1, now, A7, c7, vb ++ pd⟩) (by rw [hg]) ⟨by show nx + 1 ≤ (vb ++ pd).length; rw [List.length_append, hnb, hpl]; omega, k2, by show (vb ++ pd).length ≤ wh; rw [List.length_append, hnb, hpl]; exact hfit, h3, h4⟩
  have hbl : (vb ++ pd).length = nb + (n - 1) := by rw [List.length_append, hnb, hpl]
  have HBL := Lib.hid hbl
  have HPL := Lib.hid hpl
  have e16 : (nx % 16 + 1) % 16 = (nx + 1) % 16 := by omega
  rw [e16]
  clear hsp0 hnb hg habs hmq hlt hgood hpd e16 hbl hpl
  have F1 := Lib.hid (show (IntKind.i64.wrap (bits .and .u8 ((bget d 0).toNat : Int) 15) != bits .and .i64 (nx : Int) 15) = false by rw [E1, E2]; exact bneF (by omega))
  have F2 := Lib.hid (show ((n : Int) != IntKind.i64.wrap (1 + (mq : Int))) = false by rw [E3]; exact bneF (by omega))
  clear E1 E2 E3 c1 c2 hnum hG
  have oLz : OffB (rowOf LA) z := ⟨fun ⟨ad, e, hk⟩ => ownO_no_blk hO0 hb (by decide) ad e hk⟩
  have f0 : Fact' (([] : List UInt8).length ≤ maxLen) := ⟨by decide⟩
  by_cases full : nb + (n - 1) = wh
  · rw [if_pos full]
    have b2 : ((nb : Int) + ((n - 1 : Nat) : Int) == (wh : Int)) = true := beqT (by omega)
    go_enter Try.func35, Try.ntmps35
    go_wp2_with (first | go_skip | ((with_reducible apply (wpl_alloc (dst := some 4))); intro zf wzf _ _ _) | ((with_reducible apply (wpl_box_agg (dst := some 4))); exact rfl; intro zf wzf _ _ _) | ((with_reducible apply (wpl_box_int (dst := some 4))); exact rfl; intro zf wzf _ _ _) | ((with_reducible apply (wpl_box_slice (dst := some 4))); exact rfl; intro zf wzf _ _ _) | ((with_reducible apply (wpl_box_str (dst := some 4))); exact rfl; intro zf wzf _ _ _) | ((with_reducible apply (wpl_box_bool (dst := some 4))); exact rfl; intro zf wzf _ _ _) | ((with_reducible apply (wpl_box_ptr (dst := some 4))); exact rfl; intro zf wzf _ _ _) | ((with_reducible apply wpl_alloc); intro z wz _ _ _) | ((with_reducible apply wpl_box_agg); exact rfl; intro z wz _ _ _) | ((with_reducible apply wpl_box_int); exact rfl; intro z wz _ _ _) | ((with_reducible apply wpl_box_slice); exact rfl; intro z wz _ _ _) | ((with_reducible apply wpl_box_str); exact rfl; intro z wz _ _ _) | ((with_reducible apply wpl_box_bool); exact rfl; intro z wz _ _ _) | ((with_reducible apply wpl_box_ptr); exact rfl; intro z wz _ _ _) | ((with_reducible apply (wpl_guard (op := .load _ _))); exact rfl) | ((with_reducible apply (wpl_guard (op := .fieldAddr _ _ _))); exact rfl) | ((with_reducible apply wpl_loadrow); exact rfl; infer_instance; infer_instance; (first | with_reducible assumption | (with_reducible exact enc_sz _ rfl) | kernel_rfl)) | ((with_reducible apply wpl_loadcellN); exact rfl; infer_instance; exact rfl) | ((with_reducible apply wpl_storerow); exact rfl; exact rfl; infer_instance; infer_instance; (first | with_reducible assumption | (with_reducible exact enc_sz _ rfl) | kernel_rfl); (first | with_reducible assumption | (with_reducible exact enc_sz _ rfl) | kernel_rfl); (first | (with_reducible exact u8s_one _) | with_reducible assumption | (with_reducible exact enc_one _) | kernel_rfl); intro ws _ _) | ((with_reducible apply wpl_storecell); exact rfl; exact rfl; infer_instance; exact rfl; (first | with_reducible assumption | omega | (focus (simp; done)) | (focus (simp; omega; done)) | decide); intro ws _ _))
    refine (at_calls (l := l) oid hlm (by omega)).mono ?_
    rintro e w1 ⟨r, rfl, hs1, hat⟩
    obtain rfl : r = (i : Int) := by
      rcases hat with ⟨_, hno⟩ | ⟨i', rfl, hil', hid'⟩
      · exact absurd (by rw [HGT.out]) (hno i hil)
      · rw [hq.inj i' i hil' hil (by rw [hid', HGT.out])]
    have hi9 : ¬ (i : Int) < 0 := by omega
    clear hat
    have hil2 : i < m := by omega
    have hRv : HR w1 pA (bs vb) := inferInstance
    go_wp2_with (first | go_skip | ((with_reducible apply wpl_loadO); exact rfl; infer_instance; (exact hil); (exact HGT.out); (exact HNB.out)) | ((with_reducible apply wpl_mineq); exact rfl; exact rfl; (exact HM.out)) | ((with_reducible apply (wpl_alloc (dst := some 9))); intro zo wzo _ _ _) | ((with_reducible apply (wpl_box_agg (dst := some 9))); exact rfl; intro zo wzo _ _ _) | ((with_reducible apply (wpl_box_int (dst := some 9))); exact rfl; intro zo wzo _ _ _) | ((with_reducible apply (wpl_box_slice (dst := some 9))); exact rfl; intro zo wzo _ _ _) | ((with_reducible apply (wpl_box_str (dst := some 9))); exact rfl; intro zo wzo _ _ _) | ((with_reducible apply (wpl_box_bool (dst := some 9))); exact rfl; intro zo wzo _ _ _) | ((with_reducible apply (wpl_box_ptr (dst := some 9))); exact rfl; intro zo wzo _ _ _) | ((with_reducible apply wpl_alloc); intro z wz _ _ _) | ((with_reducible apply wpl_box_agg); exact rfl; intro z wz _ _ _) | ((with_reducible apply wpl_box_int); exact rfl; intro z wz _ _ _) | ((with_reducible apply wpl_box_slice); exact rfl; intro z wz _ _ _) | ((with_reducible apply wpl_box_str); exact rfl; intro z wz _ _ _) | ((with_reducible apply wpl_box_bool); exact rfl; intro z wz _ _ _) | ((with_reducible apply wpl_box_ptr); exact rfl; intro z wz _ _ _) | ((with_reducible apply (wpl_guard (op := .load _ _))); exact rfl) | ((with_reducible apply (wpl_guard (op := .fieldAddr _ _ _))); exact rfl) | ((with_reducible apply wpl_loadrow); exact rfl; infer_instance; infer_instance; (first | with_reducible assumption | (with_reducible exact enc_sz _ rfl) | kernel_rfl)) | ((with_reducible apply wpl_loadcellN); exact rfl; infer_instance; exact rfl) | ((with_reducible apply wpl_storerow); exact rfl; exact rfl; infer_instance; infer_instance; (first | with_reducible assumption | (with_reducible exact enc_sz _ rfl) | kernel_rfl); (first | with_reducible assumption | (with_reducible exact enc_sz _ rfl) | kernel_rfl); (first | (with_reducible exact u8s_one _) | with_reducible assumption | (with_reducible exact enc_one _) | kernel_rfl); intro ws _ _) | ((with_reducible apply wpl_storecell); exact rfl; exact rfl; infer_instance; exact rfl; (first | with_reducible assumption | omega | (focus (simp; done)) | (focus (simp; omega; done)) | decide); intro ws _ _) | ((with_reducible apply wpl_sl_lh); exact rfl; exact rfl; exact rfl; infer_instance; (first | with_reducible assumption | omega); (first | with_reducible assumption | omega)) | ((with_reducible apply wpl_sl_h); exact rfl; exact rfl; infer_instance; (first | with_reducible assumption | omega)) | ((with_reducible apply wpl_sl_l); exact rfl; exact rfl; infer_instance; (first | with_reducible assumption | omega)) | ((with_reducible apply wpl_min); exact rfl; exact rfl) | ((with_reducible apply wpl_appendB); exact rfl; exact rfl; infer_instance; (first | exact inferInstance | exact ⟨Own.nil _ _ _⟩); infer_instance; (first | with_reducible assumption | (with_reducible exact H32.len _) | (focus (simp; done)) | omega); (first | with_reducible assumption | omega); intro A' c' wa _ _ _ hcap) | ((with_reducible apply (wpl_indexE (α := OM) (t := 36))); exact rfl; exact rfl; infer_instance; infer_instance; (first | with_reducible assumption | omega | (focus (simp; done)) | (focus (simp; omega; done)) | decide); exact rfl; (decide); (first | with_reducible assumption | omega | (focus (simp; done)) | (focus (simp; omega; done)) | decide)) | ((with_reducible apply (wpl_indexE0 (α := OM) (t := 36))); exact rfl; infer_instance; infer_instance; (first | with_reducible assumption | omega | (focus (simp; done)) | (focus (simp; omega; done)) | decide); exact rfl; (decide); (first | with_reducible assumption | omega | (focus (simp; done)) | (focus (simp; omega; done)) | decide)) | ((with_reducible apply (wpl_loadE (α := OM) (t := 90))); infer_instance; exact rfl; infer_instance; exact rfl; (decide); (first | with_reducible assumption | omega | (focus (simp; done)) | (focus (simp; omega; done)) | decide)) | ((with_reducible apply (wpl_fieldE (t := 90))); (exact Try.underlying90); exact rfl; (kernel_rfl); exact rfl; infer_instance; (exact cells_pos (by decide) (by omega))) | ((with_reducible apply (wpl_loadF (α := OM))); infer_instance; exact rfl; infer_instance; exact rfl; (first | with_reducible assumption | omega | (focus (simp; done)) | (focus (simp; omega; done)) | decide); exact rfl) | ((with_reducible apply wpl_indexB0); exact rfl; infer_instance; infer_instance; (first | with_reducible assumption | (with_reducible exact H32.len _) | (focus (simp; done)) | omega); (first | with_reducible assumption | omega)) | ((with_reducible apply wpl_indexB); exact rfl; exact rfl; infer_instance; infer_instance; (first | with_reducible assumption | (with_reducible exact H32.len _) | (focus (simp; done)) | omega); (first | with_reducible assumption | omega)) | ((with_reducible apply (wpl_loadB (t := 5))); exact rfl; infer_instance; infer_instance; (first | with_reducible assumption | omega)) | ((with_reducible apply (wpl_loadint (t := 3))); exact rfl; infer_instance; infer_instance; (first | with_reducible assumption | omega)) | ((with_reducible apply (wpl_loadbyte (t := 5))); exact rfl; infer_instance; infer_instance; (first | with_reducible assumption | omega)) | ((with_reducible apply (wpl_storeint (t := 3))); exact rfl; exact rfl; infer_instance; (first | with_reducible assumption | omega); intro ws _ _) | ((with_reducible apply (wpl_storebyte (t := 5))); exact rfl; exact rfl; infer_instance; (first | with_reducible assumption | omega | (focus (simp; done)) | (focus (simp; omega; done)) | decide); (constructor <;> omega); intro ws _ _))
    refine wp_region_N (nowhere) (by kernel_rfl) (fun wd _ _ => ?_)
    refine' takeH (i := 0) (v := _) rfl (by kernel_rfl) (by kernel_rfl) (by kernel_rfl) (fun _ _ _ h => h) (yields_of (by rfl) (fun w' _ => ?_)) inferInstance ?_
    rotate_left
    · (first | ((with_reducible apply (ev_fieldE (t := 90))); (exact Try.underlying90); exact rfl; (kernel_rfl); exact rfl; infer_instance; (exact cells_pos (by decide) (by omega))) | (go_simp; try with_reducible rfl))
    try simp only [Act.put, sA]; try simp only [sB, sC]
    refine' takeH (i := 1) (v := _) rfl (by kernel_rfl) (by kernel_rfl) (by kernel_rfl) (fun _ _ _ h => h) (yields_of (by rfl) (fun w' _ => ?_)) inferInstance ?_
    rotate_left
    · (first | ((with_reducible apply (ev_loadB (t := 5))); exact rfl; infer_instance; infer_instance; (first | with_reducible assumption | omega)) | ((with_reducible apply ev_loadrow); exact rfl; infer_instance; infer_instance; (first | with_reducible assumption | (with_reducible exact enc_sz _ rfl) | kernel_rfl)) | ((with_reducible apply ev_loadcellN); exact rfl; infer_instance; infer_instance; exact rfl) | ((with_reducible apply (ev_loadE (α := OM) (t := 90))); infer_instance; exact rfl; infer_instance; exact rfl; (decide); (first | with_reducible assumption | omega | (focus (simp; done)) | (focus (simp; omega; done)) | decide)) | ((with_reducible apply (ev_loadF (α := OM))); infer_instance; exact rfl; infer_instance; exact rfl; (first | with_reducible assumption | omega | (focus (simp; done)) | (focus (simp; omega; done)) | decide); exact rfl) | ((with_reducible apply (ev_loadint (t := 3))); exact rfl; infer_instance; infer_instance; (first | with_reducible assumption | omega)) | ((with_reducible apply (ev_loadbyte (t := 5))); exact rfl; infer_instance; infer_instance; (first | with_reducible assumption | omega)) | (go_simp; try with_reducible rfl))
    try simp only [Act.put, sA]; try simp only [sB, sC]
    refine' takeH (i := 2) (v := _) rfl (by kernel_rfl) (by kernel_rfl) (by kernel_rfl) (fun _ _ _ h => h) (yields_of (by rfl) (fun w' _ => ?_)) inferInstance ?_
    rotate_left
    · (first | ((with_reducible apply ev_indexB0); exact rfl; infer_instance; infer_instance; (exact hn); (omega)) | ((with_reducible apply ev_indexB0); exact rfl; infer_instance; infer_instance; (first | with_reducible assumption | omega); (first | with_reducible assumption | omega)) | ((with_reducible apply ev_indexB); exact rfl; exact rfl; infer_instance; infer_instance; (first | with_reducible assumption | omega); (first | with_reducible assumption | omega)) | ((with_reducible apply (ev_indexE (α := OM) (t := 36))); exact rfl; exact rfl; infer_instance; infer_instance; (first | with_reducible assumption | omega | (focus (simp; done)) | (focus (simp; omega; done)) | decide); exact rfl; (decide); (first | with_reducible assumption | omega | (focus (simp; done)) | (focus (simp; omega; done)) | decide)) | ((with_reducible apply (ev_indexE0 (α := OM) (t := 36))); exact rfl; infer_instance; infer_instance; (first | with_reducible assumption | omega | (focus (simp; done)) | (focus (simp; omega; done)) | decide); exact rfl; (decide); (first | with_reducible assumption | omega | (focus (simp; done)) | (focus (simp; omega; done)) | decide)) | (go_simp; try with_reducible rfl))
    try simp only [Act.put, sA]; try simp only [sB, sC]
    refine' takeH (i := 3) (v := _) rfl (by kernel_rfl) (by kernel_rfl) (by kernel_rfl) (fun _ _ _ h => h) (yields_of (by rfl) (fun w' _ => ?_)) inferInstance ?_
    rotate_left
    · (first | ((with_reducible apply (ev_loadB (t := 5))); exact rfl; infer_instance; infer_instance; (first | with_reducible assumption | omega)) | ((with_reducible apply ev_loadrow); exact rfl; infer_instance; infer_instance; (first | with_reducible assumption | (with_reducible exact enc_sz _ rfl) | kernel_rfl)) | ((with_reducible apply ev_loadcellN); exact rfl; infer_instance; infer_instance; exact rfl) | ((with_reducible apply (ev_loadE (α := OM) (t := 90))); infer_instance; exact rfl; infer_instance; exact rfl; (decide); (first | with_reducible assumption | omega | (focus (simp; done)) | (focus (simp; omega; done)) | decide)) | ((with_reducible apply (ev_loadF (α := OM))); infer_instance; exact rfl; infer_instance; exact rfl; (first | with_reducible assumption | omega | (focus (simp; done)) | (focus (simp; omega; done)) | decide); exact rfl) | ((with_reducible apply (ev_loadint (t := 3))); exact rfl; infer_instance; infer_instance; (first | with_reducible assumption | omega)) | ((with_reducible apply (ev_loadbyte (t := 5))); exact rfl; infer_instance; infer_instance; (first | with_reducible assumption | omega)) | (go_simp; try with_reducible rfl))
    try simp only [Act.put, sA]; try simp only [sB, sC]
    refine' takeH (i := 4) (v := _) rfl (by kernel_rfl) (by kernel_rfl) (by kernel_rfl) (fun _ _ _ h => h) (yields_of (by rfl) (fun w' _ => ?_)) inferInstance ?_
    rotate_left
    · (go_simp; try with_reducible rfl)
    try simp only [Act.put, sA]; try simp only [sB, sC]
    try simp only [F1.out]
    try simp only [F2.out]
    refine' takeH (i := 5) (v := _) rfl (by kernel_rfl) (by kernel_rfl) (by kernel_rfl) (fun _ _ _ h => h) (yields_of (by rfl) (fun w' _ => ?_)) inferInstance ?_
    rotate_left
    · (go_simp; try with_reducible rfl)
    try simp only [Act.put, sA]; try simp only [sB, sC]
    refine' takeH (i := 6) (v := _) rfl (by kernel_rfl) (by kernel_rfl) (by kernel_rfl) (fun _ _ _ h => h) (yields_of (by rfl) (fun w' _ => ?_)) inferInstance ?_
    rotate_left
    · (first | ((with_reducible apply (ev_fieldE (t := 90))); (exact Try.underlying90); exact rfl; (kernel_rfl); exact rfl; infer_instance; (exact cells_pos (by decide) (by omega))) | (go_simp; try with_reducible rfl))
    try simp only [Act.put, sA]; try simp only [sB, sC]
    refine' takeH (i := 7) (v := _) rfl (by kernel_rfl) (by kernel_rfl) (by kernel_rfl) (fun _ _ _ h => h) (yields_of (by rfl) (fun w' _ => ?_)) inferInstance ?_
    rotate_left
    · (first | ((with_reducible apply (ev_loadB (t := 5))); exact rfl; infer_instance; infer_instance; (first | with_reducible assumption | omega)) | ((with_reducible apply ev_loadrow); exact rfl; infer_instance; infer_instance; (first | with_reducible assumption | (with_reducible exact enc_sz _ rfl) | kernel_rfl)) | ((with_reducible apply ev_loadcellN); exact rfl; infer_instance; infer_instance; exact rfl) | ((with_reducible apply (ev_loadE (α := OM) (t := 90))); infer_instance; exact rfl; infer_instance; exact rfl; (decide); (first | with_reducible assumption | omega | (focus (simp; done)) | (focus (simp; omega; done)) | decide)) | ((with_reducible apply (ev_loadF (α := OM))); infer_instance; exact rfl; infer_instance; exact rfl; (first | with_reducible assumption | omega | (focus (simp; done)) | (focus (simp; omega; done)) | decide); exact rfl) | ((with_reducible apply (ev_loadint (t := 3))); exact rfl; infer_instance; infer_instance; (first | with_reducible assumption | omega)) | ((with_reducible apply (ev_loadbyte (t := 5))); exact rfl; infer_instance; infer_instance; (first | with_reducible assumption | omega)) | (go_simp; try with_reducible rfl))
    try simp only [Act.put, sA]; try simp only [sB, sC]
    refine' takeH (i := 8) (v := _) rfl (by kernel_rfl) (by kernel_rfl) (by kernel_rfl) (fun _ _ _ h => h) (yields_of (by rfl) (fun w' _ => ?_)) inferInstance ?_
    rotate_left
    · (go_simp; try with_reducible rfl)
    try simp only [Act.put, sA]; try simp only [sB, sC]
    try simp only [F1.out]
    try simp only [F2.out]
    refine' takeH (i := 9) (v := _) rfl (by kernel_rfl) (by kernel_rfl) (by kernel_rfl) (fun _ _ _ h => h) (yields_of (by rfl) (fun w' _ => ?_)) inferInstance ?_
    rotate_left
    · (go_simp; try with_reducible rfl)
    try simp only [Act.put, sA]; try simp only [sB, sC]
    try simp only [F1.out]
    try simp only [F2.out]
    refine' takeH (i := 10) (v := _) rfl (by kernel_rfl) (by kernel_rfl) (by kernel_rfl) (fun _ _ _ h => h) (yields_of (by rfl) (fun w' _ => ?_)) inferInstance ?_
    rotate_left
    · (go_simp; try with_reducible rfl)
    try simp only [Act.put, sA]; try simp only [sB, sC]
    refine' takeH (i := 11) (v := _) rfl (by kernel_rfl) (by kernel_rfl) (by kernel_rfl) (fun _ _ _ h => h) (yields_of (by rfl) (fun w' _ => ?_)) inferInstance ?_
    rotate_left
    · (first | ((with_reducible apply (ev_fieldE (t := 90))); (exact Try.underlying90); exact rfl; (kernel_rfl); exact rfl; infer_instance; (exact cells_pos (by decide) (by omega))) | (go_simp; try with_reducible rfl))
    try simp only [Act.put, sA]; try simp only [sB, sC]
    refine' takeH (i := 12) (v := _) rfl (by kernel_rfl) (by kernel_rfl) (by kernel_rfl) (fun _ _ _ h => h) (yields_of (by rfl) (fun w' _ => ?_)) inferInstance ?_
    rotate_left
    · (first | ((with_reducible apply (ev_loadB (t := 5))); exact rfl; infer_instance; infer_instance; (first | with_reducible assumption | omega)) | ((with_reducible apply ev_loadrow); exact rfl; infer_instance; infer_instance; (first | with_reducible assumption | (with_reducible exact enc_sz _ rfl) | kernel_rfl)) | ((with_reducible apply ev_loadcellN); exact rfl; infer_instance; infer_instance; exact rfl) | ((with_reducible apply (ev_loadE (α := OM) (t := 90))); infer_instance; exact rfl; infer_instance; exact rfl; (decide); (first | with_reducible assumption | omega | (focus (simp; done)) | (focus (simp; omega; done)) | decide)) | ((with_reducible apply (ev_loadF (α := OM))); infer_instance; exact rfl; infer_instance; exact rfl; (first | with_reducible assumption | omega | (focus (simp; done)) | (focus (simp; omega; done)) | decide); exact rfl) | ((with_reducible apply (ev_loadint (t := 3))); exact rfl; infer_instance; infer_instance; (first | with_reducible assumption | omega)) | ((with_reducible apply (ev_loadbyte (t := 5))); exact rfl; infer_instance; infer_instance; (first | with_reducible assumption | omega)) | (go_simp; try with_reducible rfl))
    try simp only [Act.put, sA]; try simp only [sB, sC]
    refine' takeH (i := 13) (v := _) rfl (by kernel_rfl) (by kernel_rfl) (by kernel_rfl) (fun _ _ _ h => h) (yields_of (by rfl) (fun w' _ => ?_)) inferInstance ?_
    rotate_left
    · (go_simp; try with_reducible rfl)
    try simp only [Act.put, sA]; try simp only [sB, sC]
    refine' takeH (i := 14) (v := _) rfl (by kernel_rfl) (by kernel_rfl) (by kernel_rfl) (fun _ _ _ h => h) (yields_of (by rfl) (fun w' _ => ?_)) inferInstance ?_
    rotate_left
    · (go_simp; try with_reducible rfl)
    try simp only [Act.put, sA]; try simp only [sB, sC]
    refine' takeH (i := 15) (v := _) rfl (by kernel_rfl) (by kernel_rfl) (by kernel_rfl) (fun _ _ _ h => h) (yields_of (by rfl) (fun w' _ => ?_)) inferInstance ?_
    rotate_left
    · (go_simp; try with_reducible rfl)
    try simp only [Act.put, sA]; try simp only [sB, sC]
    try simp only [F1.out]
    try simp only [F2.out]
    refine' takeH (i := 16) (v := _) rfl (by kernel_rfl) (by kernel_rfl) (by kernel_rfl) (fun _ _ _ h => h) (yields_of (by rfl) (fun w' _ => ?_)) inferInstance ?_
    rotate_left
    · (go_simp; try with_reducible rfl)
    try simp only [Act.put, sA]; try simp only [sB, sC]
    try simp only [F1.out]
    try simp only [F2.out]
    refine' takeH (i := 17) (v := _) rfl (by kernel_rfl) (by kernel_rfl) (by kernel_rfl) (fun _ _ _ h => h) (yields_of (by rfl) (fun w' _ => ?_)) inferInstance ?_
    rotate_left
    · (go_simp; try with_reducible rfl)
    try simp only [Act.put, sA]; try simp only [sB, sC]
    refine wpAnyH_done (by kernel_rfl) ?_ _
    go_wp2_with fail
    refine wp_region_N ((only zo)) (by kernel_rfl) (fun wd _ _ => ?_)
    refine' takeH (i := 1) (v := _) rfl (by kernel_rfl) (by kernel_rfl) (by kernel_rfl) (fun _ _ _ h => h) (yields_of (by rfl) (fun w' _ => ?_)) inferInstance ?_
    rotate_left
    · (first | ((with_reducible apply (ev_fieldE (t := 90))); (exact Try.underlying90); exact rfl; (kernel_rfl); exact rfl; infer_instance; (exact cells_pos (by decide) (by omega))) | (go_simp; try with_reducible rfl))
    try simp only [Act.put, sA]; try simp only [sB, sC]
    refine' takeH (i := 4) (v := _) rfl (by kernel_rfl) (by kernel_rfl) (by kernel_rfl) (fun _ _ _ h => h) (yields_of (by rfl) (fun w' _ => ?_)) inferInstance ?_
    rotate_left
    · (first | ((with_reducible apply (ev_fieldE (t := 90))); (exact Try.underlying90); exact rfl; (kernel_rfl); exact rfl; infer_instance; (exact cells_pos (by decide) (by omega))) | (go_simp; try with_reducible rfl))
    try simp only [Act.put, sA]; try simp only [sB, sC]
    refine' takeH (i := 5) (v := _) rfl (by kernel_rfl) (by kernel_rfl) (by kernel_rfl) (fun _ _ _ h => h) (yields_of (by rfl) (fun w' _ => ?_)) inferInstance ?_
    rotate_left
    · (first | ((with_reducible apply (ev_loadB (t := 5))); exact rfl; infer_instance; infer_instance; (first | with_reducible assumption | omega)) | ((with_reducible apply ev_loadrow); exact rfl; infer_instance; infer_instance; (first | with_reducible assumption | (with_reducible exact enc_sz _ rfl) | kernel_rfl)) | ((with_reducible apply ev_loadcellN); exact rfl; infer_instance; infer_instance; exact rfl) | ((with_reducible apply (ev_loadE (α := OM) (t := 90))); infer_instance; exact rfl; infer_instance; exact rfl; (decide); (first | with_reducible assumption | omega | (focus (simp; done)) | (focus (simp; omega; done)) | decide)) | ((with_reducible apply (ev_loadF (α := OM))); infer_instance; exact rfl; infer_instance; exact rfl; (first | with_reducible assumption | omega | (focus (simp; done)) | (focus (simp; omega; done)) | decide); exact rfl) | ((with_reducible apply (ev_loadint (t := 3))); exact rfl; infer_instance; infer_instance; (first | with_reducible assumption | omega)) | ((with_reducible apply (ev_loadbyte (t := 5))); exact rfl; infer_instance; infer_instance; (first | with_reducible assumption | omega)) | (go_simp; try with_reducible rfl))
    try simp only [Act.put, sA]; try simp only [sB, sC]
    refine' takeH (i := 6) (v := _) rfl (by kernel_rfl) (by kernel_rfl) (by kernel_rfl) (fun _ _ _ h => h) (yields_of (by rfl) (fun w' _ => ?_)) inferInstance ?_
    rotate_left
    · (first | ((with_reducible apply ev_sl_l1); exact rfl; infer_instance; (first | with_reducible assumption | omega)) | ((with_reducible apply ev_sl_lh); exact rfl; exact rfl; exact rfl; infer_instance; (first | with_reducible assumption | omega); (first | with_reducible assumption | omega)) | ((with_reducible apply ev_sl_h); exact rfl; exact rfl; infer_instance; (first | with_reducible assumption | omega)) | ((with_reducible apply ev_sl_l); exact rfl; exact rfl; infer_instance; (first | with_reducible assumption | omega)) | (go_simp; try with_reducible rfl))
    try simp only [Act.put, sA]; try simp only [sB, sC]
    refine wpAnyH_ready (rs := [0, 2]) (by kernel_rfl) (by simp) (AllReadyH.cons rfl (fun K_ hK_ => ?br1_0) (AllReadyH.cons rfl (fun K_ hK_ => ?br1_2) AllReadyH.nil))
    case' br1_0 =>
      rw [if_pos (by kernel_rfl)]
      refine wpr_of_list ?_
      (first | ((with_reducible apply (stop_dst (dst := some 60))); (try simp only [Act.put, sA, sB, sC]); ((with_reducible apply (wpl_bslice (dst := some 60))); (exact run_empty _); intro zn wb _ _ _)) | ((with_reducible apply (stop_dst (dst := some 63))); (with_reducible apply wpl_appendB); exact rfl; exact rfl; infer_instance; infer_instance; infer_instance; (exact HNB.out); omega; intro A6 c6 wa6 _ ho6 g6 hcap6) | ((with_reducible apply (stop_dst (dst := some 67))); (with_reducible apply wpl_appendB); exact rfl; exact rfl; infer_instance; infer_instance; infer_instance; (exact HPL.out); omega; intro A7 c7 wa7 _ ho7 g7 hcap7; have oz7 : OffA (only zo) A7 := ⟨fun ad e hk => own_no_blk ho7.out (inferInstance : HB wa7 zo _ _).out (by decide) e hk⟩))
      refine wpList_nil ?_
      unfold onlyN
      refine hK_.out _ _ inferInstance (fun _ => ?_)
      clear hK_ K_
      try simp only [Act.put, sA]; try simp only [sB, sC]
      refine goH (i := 2) (by kernel_rfl) rfl (fun K_ hK_ => ?_)
      rw [if_pos (by kernel_rfl)]
      refine wpr_of_list ?_
      (first | ((with_reducible apply (stop_dst (dst := some 60))); (try simp only [Act.put, sA, sB, sC]); ((with_reducible apply (wpl_bslice (dst := some 60))); (exact run_empty _); intro zn wb _ _ _)) | ((with_reducible apply (stop_dst (dst := some 63))); (with_reducible apply wpl_appendB); exact rfl; exact rfl; infer_instance; infer_instance; infer_instance; (exact HNB.out); omega; intro A6 c6 wa6 _ ho6 g6 hcap6) | ((with_reducible apply (stop_dst (dst := some 67))); (with_reducible apply wpl_appendB); exact rfl; exact rfl; infer_instance; infer_instance; infer_instance; (exact HPL.out); omega; intro A7 c7 wa7 _ ho7 g7 hcap7; have oz7 : OffA (only zo) A7 := ⟨fun ad e hk => own_no_blk ho7.out (inferInstance : HB wa7 zo _ _).out (by decide) e hk⟩) | ((with_reducible apply wpl_loadrow); exact rfl; infer_instance; infer_instance; (first | with_reducible assumption | (with_reducible exact enc_sz _ rfl) | kernel_rfl)) | ((with_reducible apply wpl_loadcellN); exact rfl; infer_instance; exact rfl) | ((with_reducible apply (wpl_loadE (α := OM) (t := 90))); infer_instance; exact rfl; infer_instance; exact rfl; (decide); (first | with_reducible assumption | omega | (focus (simp; done)) | (focus (simp; omega; done)) | decide)) | ((with_reducible apply (wpl_loadF (α := OM))); infer_instance; exact rfl; infer_instance; exact rfl; (first | with_reducible assumption | omega | (focus (simp; done)) | (focus (simp; omega; done)) | decide); exact rfl) | ((with_reducible apply (wpl_loadB (t := 5))); exact rfl; infer_instance; infer_instance; (first | with_reducible assumption | omega)) | ((with_reducible apply (wpl_loadint (t := 3))); exact rfl; infer_instance; infer_instance; (first | with_reducible assumption | omega)) | ((with_reducible apply (wpl_loadbyte (t := 5))); exact rfl; infer_instance; infer_instance; (first | with_reducible assumption | omega)))
      refine wpList_nil ?_
      unfold onlyN
      refine hK_.out _ _ inferInstance (fun _ => ?_)
      clear hK_ K_
      try simp only [Act.put, sA]; try simp only [sB, sC]
      refine goH (i := 3) (by kernel_rfl) rfl (fun K_ hK_ => ?_)
      rw [if_pos (by kernel_rfl)]
      refine wpr_of_list ?_
      (first | ((with_reducible apply (stop_dst (dst := some 60))); (try simp only [Act.put, sA, sB, sC]); ((with_reducible apply (wpl_bslice (dst := some 60))); (exact run_empty _); intro zn wb _ _ _)) | ((with_reducible apply (stop_dst (dst := some 63))); (with_reducible apply wpl_appendB); exact rfl; exact rfl; infer_instance; infer_instance; infer_instance; (exact HNB.out); omega; intro A6 c6 wa6 _ ho6 g6 hcap6) | ((with_reducible apply (stop_dst (dst := some 67))); (with_reducible apply wpl_appendB); exact rfl; exact rfl; infer_instance; infer_instance; infer_instance; (exact HPL.out); omega; intro A7 c7 wa7 _ ho7 g7 hcap7; have oz7 : OffA (only zo) A7 := ⟨fun ad e hk => own_no_blk ho7.out (inferInstance : HB wa7 zo _ _).out (by decide) e hk⟩) | ((with_reducible apply wpl_appendB); exact rfl; exact rfl; infer_instance; (first | exact inferInstance | exact ⟨Own.nil _ _ _⟩); infer_instance; (first | with_reducible assumption | (with_reducible exact H32.len _) | (focus (simp; done)) | omega); (first | with_reducible assumption | omega); intro A' c' wa _ _ _ hcap))
      refine wpList_nil ?_
      unfold onlyN
      refine hK_.out _ _ inferInstance (fun _ => ?_)
      clear hK_ K_
      try simp only [Act.put, sA]; try simp only [sB, sC]
      refine goH (i := 7) (by kernel_rfl) rfl (fun K_ hK_ => ?_)
      rw [if_pos (by kernel_rfl)]
      refine wpr_of_list ?_
      (first | ((with_reducible apply (stop_dst (dst := some 60))); (try simp only [Act.put, sA, sB, sC]); ((with_reducible apply (wpl_bslice (dst := some 60))); (exact run_empty _); intro zn wb _ _ _)) | ((with_reducible apply (stop_dst (dst := some 63))); (with_reducible apply wpl_appendB); exact rfl; exact rfl; infer_instance; infer_instance; infer_instance; (exact HNB.out); omega; intro A6 c6 wa6 _ ho6 g6 hcap6) | ((with_reducible apply (stop_dst (dst := some 67))); (with_reducible apply wpl_appendB); exact rfl; exact rfl; infer_instance; infer_instance; infer_instance; (exact HPL.out); omega; intro A7 c7 wa7 _ ho7 g7 hcap7; have oz7 : OffA (only zo) A7 := ⟨fun ad e hk => own_no_blk ho7.out (inferInstance : HB wa7 zo _ _).out (by decide) e hk⟩) | ((with_reducible apply wpl_appendB); exact rfl; exact rfl; infer_instance; (first | exact inferInstance | exact ⟨Own.nil _ _ _⟩); infer_instance; (first | with_reducible assumption | (with_reducible exact H32.len _) | (focus (simp; done)) | omega); (first | with_reducible assumption | omega); intro A' c' wa _ _ _ hcap))
      refine wpList_nil ?_
      unfold onlyN
      refine hK_.out _ _ inferInstance (fun _ => ?_)
      clear hK_ K_
      try simp only [Act.put, sA]; try simp only [sB, sC]
      refine' takeH (i := 8) (v := _) rfl (by kernel_rfl) (by kernel_rfl) (by kernel_rfl) (fun _ _ _ h => h) (yields_of (by rfl) (fun w' _ => ?_)) inferInstance ?_
      rotate_left
      · (first | ((with_reducible apply (ev_fieldE (t := 90))); (exact Try.underlying90); exact rfl; (kernel_rfl); exact rfl; infer_instance; (exact cells_pos (by decide) (by omega))) | (go_simp; try with_reducible rfl))
      try simp only [Act.put, sA]; try simp only [sB, sC]
      refine goH (i := 9) (by kernel_rfl) rfl (fun K_ hK_ => ?_)
      rw [if_pos (by kernel_rfl)]
      refine wpr_of_list ?_
      (first | ((with_reducible apply (stop_dst (dst := some 60))); (try simp only [Act.put, sA, sB, sC]); ((with_reducible apply (wpl_bslice (dst := some 60))); (exact run_empty _); intro zn wb _ _ _)) | ((with_reducible apply (stop_dst (dst := some 63))); (with_reducible apply wpl_appendB); exact rfl; exact rfl; infer_instance; infer_instance; infer_instance; (exact HNB.out); omega; intro A6 c6 wa6 _ ho6 g6 hcap6) | ((with_reducible apply (stop_dst (dst := some 67))); (with_reducible apply wpl_appendB); exact rfl; exact rfl; infer_instance; infer_instance; infer_instance; (exact HPL.out); omega; intro A7 c7 wa7 _ ho7 g7 hcap7; have oz7 : OffA (only zo) A7 := ⟨fun ad e hk => own_no_blk ho7.out (inferInstance : HB wa7 zo _ _).out (by decide) e hk⟩) | ((with_reducible apply wpl_storerow); exact rfl; exact rfl; infer_instance; infer_instance; (first | with_reducible assumption | (with_reducible exact enc_sz _ rfl) | kernel_rfl); (first | with_reducible assumption | (with_reducible exact enc_sz _ rfl) | kernel_rfl); (first | (with_reducible exact u8s_one _) | with_reducible assumption | (with_reducible exact enc_one _) | kernel_rfl); intro ws _ _) | ((with_reducible apply wpl_storecell); exact rfl; exact rfl; infer_instance; exact rfl; (first | with_reducible assumption | omega | (focus (simp; done)) | (focus (simp; omega; done)) | decide); intro ws _ _) | ((with_reducible apply (wpl_storeint (t := 3))); exact rfl; exact rfl; infer_instance; (first | with_reducible assumption | omega); intro ws _ _) | ((with_reducible apply (wpl_storebyte (t := 5))); exact rfl; exact rfl; infer_instance; (first | with_reducible assumption | omega | (focus (simp; done)) | (focus (simp; omega; done)) | decide); (constructor <;> omega); intro ws _ _))
      refine wpList_nil ?_
      unfold onlyN
      refine hK_.out _ _ inferInstance (fun _ => ?_)
      clear hK_ K_
      try simp only [Act.put]
      refine wpAnyH_done (by kernel_rfl) ?_ _
    case' br1_2 =>
      rw [if_pos (by kernel_rfl)]
      refine wpr_of_list ?_
      (first | ((with_reducible apply (stop_dst (dst := some 60))); (try simp only [Act.put, sA, sB, sC]); ((with_reducible apply (wpl_bslice (dst := some 60))); (exact run_empty _); intro zn wb _ _ _)) | ((with_reducible apply (stop_dst (dst := some 63))); (with_reducible apply wpl_appendB); exact rfl; exact rfl; infer_instance; infer_instance; infer_instance; (exact HNB.out); omega; intro A6 c6 wa6 _ ho6 g6 hcap6) | ((with_reducible apply (stop_dst (dst := some 67))); (with_reducible apply wpl_appendB); exact rfl; exact rfl; infer_instance; infer_instance; infer_instance; (exact HPL.out); omega; intro A7 c7 wa7 _ ho7 g7 hcap7; have oz7 : OffA (only zo) A7 := ⟨fun ad e hk => own_no_blk ho7.out (inferInstance : HB wa7 zo _ _).out (by decide) e hk⟩) | ((with_reducible apply wpl_loadrow); exact rfl; infer_instance; infer_instance; (first | with_reducible assumption | (with_reducible exact enc_sz _ rfl) | kernel_rfl)) | ((with_reducible apply wpl_loadcellN); exact rfl; infer_instance; exact rfl) | ((with_reducible apply (wpl_loadE (α := OM) (t := 90))); infer_instance; exact rfl; infer_instance; exact rfl; (decide); (first | with_reducible assumption | omega | (focus (simp; done)) | (focus (simp; omega; done)) | decide)) | ((with_reducible apply (wpl_loadF (α := OM))); infer_instance; exact rfl; infer_instance; exact rfl; (first | with_reducible assumption | omega | (focus (simp; done)) | (focus (simp; omega; done)) | decide); exact rfl) | ((with_reducible apply (wpl_loadB (t := 5))); exact rfl; infer_instance; infer_instance; (first | with_reducible assumption | omega)) | ((with_reducible apply (wpl_loadint (t := 3))); exact rfl; infer_instance; infer_instance; (first | with_reducible assumption | omega)) | ((with_reducible apply (wpl_loadbyte (t := 5))); exact rfl; infer_instance; infer_instance; (first | with_reducible assumption | omega)))
      refine wpList_nil ?_
      unfold onlyN
      refine hK_.out _ _ inferInstance (fun _ => ?_)
      clear hK_ K_
      try simp only [Act.put, sA]; try simp only [sB, sC]
      refine goH (i := 0) (by kernel_rfl) rfl (fun K_ hK_ => ?_)
      rw [if_pos (by kernel_rfl)]
      refine wpr_of_list ?_
      (first | ((with_reducible apply (stop_dst (dst := some 60))); (try simp only [Act.put, sA, sB, sC]); ((with_reducible apply (wpl_bslice (dst := some 60))); (exact run_empty _); intro zn wb _ _ _)) | ((with_reducible apply (stop_dst (dst := some 63))); (with_reducible apply wpl_appendB); exact rfl; exact rfl; infer_instance; infer_instance; infer_instance; (exact HNB.out); omega; intro A6 c6 wa6 _ ho6 g6 hcap6) | ((with_reducible apply (stop_dst (dst := some 67))); (with_reducible apply wpl_appendB); exact rfl; exact rfl; infer_instance; infer_instance; infer_instance; (exact HPL.out); omega; intro A7 c7 wa7 _ ho7 g7 hcap7; have oz7 : OffA (only zo) A7 := ⟨fun ad e hk => own_no_blk ho7.out (inferInstance : HB wa7 zo _ _).out (by decide) e hk⟩))
      refine wpList_nil ?_
      unfold onlyN
      refine hK_.out _ _ inferInstance (fun _ => ?_)
      clear hK_ K_
      try simp only [Act.put, sA]; try simp only [sB, sC]
      refine goH (i := 3) (by kernel_rfl) rfl (fun K_ hK_ => ?_)
      rw [if_pos (by kernel_rfl)]
      refine wpr_of_list ?_
      (first | ((with_reducible apply (stop_dst (dst := some 60))); (try simp only [Act.put, sA, sB, sC]); ((with_reducible apply (wpl_bslice (dst := some 60))); (exact run_empty _); intro zn wb _ _ _)) | ((with_reducible apply (stop_dst (dst := some 63))); (with_reducible apply wpl_appendB); exact rfl; exact rfl; infer_instance; infer_instance; infer_instance; (exact HNB.out); omega; intro A6 c6 wa6 _ ho6 g6 hcap6) | ((with_reducible apply (stop_dst (dst := some 67))); (with_reducible apply wpl_appendB); exact rfl; exact rfl; infer_instance; infer_instance; infer_instance; (exact HPL.out); omega; intro A7 c7 wa7 _ ho7 g7 hcap7; have oz7 : OffA (only zo) A7 := ⟨fun ad e hk => own_no_blk ho7.out (inferInstance : HB wa7 zo _ _).out (by decide) e hk⟩) | ((with_reducible apply wpl_appendB); exact rfl; exact rfl; infer_instance; (first | exact inferInstance | exact ⟨Own.nil _ _ _⟩); infer_instance; (first | with_reducible assumption | (with_reducible exact H32.len _) | (focus (simp; done)) | omega); (first | with_reducible assumption | omega); intro A' c' wa _ _ _ hcap))
      refine wpList_nil ?_
      unfold onlyN
      refine hK_.out _ _ inferInstance (fun _ => ?_)
      clear hK_ K_
      try simp only [Act.put, sA]; try simp only [sB, sC]
      refine goH (i := 7) (by kernel_rfl) rfl (fun K_ hK_ => ?_)
      rw [if_pos (by kernel_rfl)]
      refine wpr_of_list ?_
      (first | ((with_reducible apply (stop_dst (dst := some 60))); (try simp only [Act.put, sA, sB, sC]); ((with_reducible apply (wpl_bslice (dst := some 60))); (exact run_empty _); intro zn wb _ _ _)) | ((with_reducible apply (stop_dst (dst := some 63))); (with_reducible apply wpl_appendB); exact rfl; exact rfl; infer_instance; infer_instance; infer_instance; (exact HNB.out); omega; intro A6 c6 wa6 _ ho6 g6 hcap6) | ((with_reducible apply (stop_dst (dst := some 67))); (with_reducible apply wpl_appendB); exact rfl; exact rfl; infer_instance; infer_instance; infer_instance; (exact HPL.out); omega; intro A7 c7 wa7 _ ho7 g7 hcap7; have oz7 : OffA (only zo) A7 := ⟨fun ad e hk => own_no_blk ho7.out (inferInstance : HB wa7 zo _ _).out (by decide) e hk⟩) | ((with_reducible apply wpl_appendB); exact rfl; exact rfl; infer_instance; (first | exact inferInstance | exact ⟨Own.nil _ _ _⟩); infer_instance; (first | with_reducible assumption | (with_reducible exact H32.len _) | (focus (simp; done)) | omega); (first | with_reducible assumption | omega); intro A' c' wa _ _ _ hcap))
      refine wpList_nil ?_
      unfold onlyN
      refine hK_.out _ _ inferInstance (fun _ => ?_)
      clear hK_ K_
      try simp only [Act.put, sA]; try simp only [sB, sC]
      refine' takeH (i := 8) (v := _) rfl (by kernel_rfl) (by kernel_rfl) (by kernel_rfl) (fun _ _ _ h => h) (yields_of (by rfl) (fun w' _ => ?_)) inferInstance ?_
      rotate_left
      · (first | ((with_reducible apply (ev_fieldE (t := 90))); (exact Try.underlying90); exact rfl; (kernel_rfl); exact rfl; infer_instance; (exact cells_pos (by decide) (by omega))) | (go_simp; try with_reducible rfl))
      try simp only [Act.put, sA]; try simp only [sB, sC]
      refine goH (i := 9) (by kernel_rfl) rfl (fun K_ hK_ => ?_)
      rw [if_pos (by kernel_rfl)]
      refine wpr_of_list ?_
      (first | ((with_reducible apply (stop_dst (dst := some 60))); (try simp only [Act.put, sA, sB, sC]); ((with_reducible apply (wpl_bslice (dst := some 60))); (exact run_empty _); intro zn wb _ _ _)) | ((with_reducible apply (stop_dst (dst := some 63))); (with_reducible apply wpl_appendB); exact rfl; exact rfl; infer_instance; infer_instance; infer_instance; (exact HNB.out); omega; intro A6 c6 wa6 _ ho6 g6 hcap6) | ((with_reducible apply (stop_dst (dst := some 67))); (with_reducible apply wpl_appendB); exact rfl; exact rfl; infer_instance; infer_instance; infer_instance; (exact HPL.out); omega; intro A7 c7 wa7 _ ho7 g7 hcap7; have oz7 : OffA (only zo) A7 := ⟨fun ad e hk => own_no_blk ho7.out (inferInstance : HB wa7 zo _ _).out (by decide) e hk⟩) | ((with_reducible apply wpl_storerow); exact rfl; exact rfl; infer_instance; infer_instance; (first | with_reducible assumption | (with_reducible exact enc_sz _ rfl) | kernel_rfl); (first | with_reducible assumption | (with_reducible exact enc_sz _ rfl) | kernel_rfl); (first | (with_reducible exact u8s_one _) | with_reducible assumption | (with_reducible exact enc_one _) | kernel_rfl); intro ws _ _) | ((with_reducible apply wpl_storecell); exact rfl; exact rfl; infer_instance; exact rfl; (first | with_reducible assumption | omega | (focus (simp; done)) | (focus (simp; omega; done)) | decide); intro ws _ _) | ((with_reducible apply (wpl_storeint (t := 3))); exact rfl; exact rfl; infer_instance; (first | with_reducible assumption | omega); intro ws _ _) | ((with_reducible apply (wpl_storebyte (t := 5))); exact rfl; exact rfl; infer_instance; (first | with_reducible assumption | omega | (focus (simp; done)) | (focus (simp; omega; done)) | decide); (constructor <;> omega); intro ws _ _))
      refine wpList_nil ?_
      unfold onlyN
      refine hK_.out _ _ inferInstance (fun _ => ?_)
      clear hK_ K_
      try simp only [Act.put]
      refine wpAnyH_done (by kernel_rfl) ?_ _
    all_goals
      go_wp2_with (first | go_skip | ((with_reducible apply wpl_alloc); intro z wz _ _ _) | ((with_reducible apply wpl_box_agg); exact rfl; intro z wz _ _ _) | ((with_reducible apply wpl_box_int); exact rfl; intro z wz _ _ _) | ((with_reducible apply wpl_box_slice); exact rfl; intro z wz _ _ _) | ((with_reducible apply wpl_box_str); exact rfl; intro z wz _ _ _) | ((with_reducible apply wpl_box_bool); exact rfl; intro z wz _ _ _) | ((with_reducible apply wpl_box_ptr); exact rfl; intro z wz _ _ _) | ((with_reducible apply (wpl_guard (op := .load _ _))); exact rfl) | ((with_reducible apply (wpl_guard (op := .fieldAddr _ _ _))); exact rfl) | ((with_reducible apply wpl_loadrow); exact rfl; infer_instance; infer_instance; (first | with_reducible assumption | (with_reducible exact enc_sz _ rfl) | kernel_rfl)) | ((with_reducible apply wpl_loadcellN); exact rfl; infer_instance; exact rfl) | ((with_reducible apply wpl_storerow); exact rfl; exact rfl; infer_instance; infer_instance; (first | with_reducible assumption | (with_reducible exact enc_sz _ rfl) | kernel_rfl); (first | with_reducible assumption | (with_reducible exact enc_sz _ rfl) | kernel_rfl); (first | (with_reducible exact u8s_one _) | with_reducible assumption | (with_reducible exact enc_one _) | kernel_rfl); intro ws _ _) | ((with_reducible apply wpl_storecell); exact rfl; exact rfl; infer_instance; exact rfl; (first | with_reducible assumption | omega | (focus (simp; done)) | (focus (simp; omega; done)) | decide); intro ws _ _))
      have hzo : ¬ zo < w.heap.size := fun hlt => (inferInstance : Into w (only zo) nowhere).out zo hlt rfl
      have oLzo : OffB (rowOf LA) zo := ⟨fun ⟨ad, e, hk⟩ => hzo (by rw [← hk]; exact hO0.lt e)⟩
      have hzf : ¬ zf < w.heap.size := fun hlt => (inferInstance : Into w (only zf) nowhere).out zf hlt rfl
      have oLzf : OffB (rowOf LA) zf := ⟨fun ⟨ad, e, hk⟩ => hzf (by rw [← hk]; exact hO0.lt e)⟩
      have hN7 : NewA w A7 := NewA.monoS (w0 := w) inferInstance
      have oA7 : OffA (rowOf LA) A7 := OffA.newOld hN7 (fun ad e => hO0.lt e)
      have hZO : HB ws zo 90 #[.int .i64 oid, .int .i64 (wh : Int), .int .i64 ((nx : Int) + 1), .int .i64 now, .slice A7 (0 + nb + (n - 1)) c7] := inferInstance
      refine wp_region_N ((rowOf LA)) (by kernel_rfl) (fun wd _ _ => ?_)
      refine' takeH (i := 0) (v := _) rfl (by kernel_rfl) (by kernel_rfl) (by kernel_rfl) (fun _ _ _ h => h) (yields_of (by rfl) (fun w' _ => ?_)) inferInstance ?_
      rotate_left
      · (go_simp; try with_reducible rfl)
      try simp only [Act.put, sA]; try simp only [sB, sC]
      refine' takeH (i := 1) (v := _) rfl (by kernel_rfl) (by kernel_rfl) (by kernel_rfl) (fun _ _ _ h => h) (yields_of (by rfl) (fun w' _ => ?_)) inferInstance ?_
      rotate_left
      · (go_simp; try with_reducible rfl)
      try simp only [Act.put, sA]; try simp only [sB, sC]
      refine' takeH (i := 2) (v := _) rfl (by kernel_rfl) (by kernel_rfl) (by kernel_rfl) (fun _ _ _ h => h) (yields_of (by rfl) (fun w' _ => ?_)) inferInstance ?_
      rotate_left
      · (first | ((with_reducible apply (ev_fieldE (t := 90))); (exact Try.underlying90); exact rfl; (kernel_rfl); exact rfl; infer_instance; (exact cells_pos (by decide) (by omega))) | (go_simp; try with_reducible rfl))
      try simp only [Act.put, sA]; try simp only [sB, sC]
      refine' takeH (i := 3) (v := _) rfl (by kernel_rfl) (by kernel_rfl) (by kernel_rfl) (fun _ _ _ h => h) (yields_of (by rfl) (fun w' _ => ?_)) inferInstance ?_
      rotate_left
      · (first | ((with_reducible apply (ev_loadB (t := 5))); exact rfl; infer_instance; infer_instance; (first | with_reducible assumption | omega)) | ((with_reducible apply ev_loadrow); exact rfl; infer_instance; infer_instance; (first | with_reducible assumption | (with_reducible exact enc_sz _ rfl) | kernel_rfl)) | ((with_reducible apply ev_loadcellN); exact rfl; infer_instance; infer_instance; exact rfl) | ((with_reducible apply (ev_loadE (α := OM) (t := 90))); infer_instance; exact rfl; infer_instance; exact rfl; (decide); (first | with_reducible assumption | omega | (focus (simp; done)) | (focus (simp; omega; done)) | decide)) | ((with_reducible apply (ev_loadF (α := OM))); infer_instance; exact rfl; infer_instance; exact rfl; (first | with_reducible assumption | omega | (focus (simp; done)) | (focus (simp; omega; done)) | decide); exact rfl) | ((with_reducible apply (ev_loadint (t := 3))); exact rfl; infer_instance; infer_instance; (first | with_reducible assumption | omega)) | ((with_reducible apply (ev_loadbyte (t := 5))); exact rfl; infer_instance; infer_instance; (first | with_reducible assumption | omega)) | (go_simp; try with_reducible rfl))
      try simp only [Act.put, sA]; try simp only [sB, sC]
      refine' takeH (i := 4) (v := _) rfl (by kernel_rfl) (by kernel_rfl) (by kernel_rfl) (fun _ _ _ h => h) (yields_of (by rfl) (fun w' _ => ?_)) inferInstance ?_
      rotate_left
      · (go_simp; try with_reducible rfl)
      try simp only [Act.put, sA]; try simp only [sB, sC]
      refine' takeH (i := 5) (v := _) rfl (by kernel_rfl) (by kernel_rfl) (by kernel_rfl) (fun _ _ _ h => h) (yields_of (by rfl) (fun w' _ => ?_)) inferInstance ?_
      rotate_left
      · (first | ((with_reducible apply (ev_loadB (t := 5))); exact rfl; infer_instance; infer_instance; (first | with_reducible assumption | omega)) | ((with_reducible apply ev_loadrow); exact rfl; infer_instance; infer_instance; (first | with_reducible assumption | (with_reducible exact enc_sz _ rfl) | kernel_rfl)) | ((with_reducible apply ev_loadcellN); exact rfl; infer_instance; infer_instance; exact rfl) | ((with_reducible apply (ev_loadE (α := OM) (t := 90))); infer_instance; exact rfl; infer_instance; exact rfl; (decide); (first | with_reducible assumption | omega | (focus (simp; done)) | (focus (simp; omega; done)) | decide)) | ((with_reducible apply (ev_loadF (α := OM))); infer_instance; exact rfl; infer_instance; exact rfl; (first | with_reducible assumption | omega | (focus (simp; done)) | (focus (simp; omega; done)) | decide); exact rfl) | ((with_reducible apply (ev_loadint (t := 3))); exact rfl; infer_instance; infer_instance; (first | with_reducible assumption | omega)) | ((with_reducible apply (ev_loadbyte (t := 5))); exact rfl; infer_instance; infer_instance; (first | with_reducible assumption | omega)) | (go_simp; try with_reducible rfl))
      try simp only [Act.put, sA]; try simp only [sB, sC]
      refine goH (i := 6) (by kernel_rfl) rfl (fun K_ hK_ => ?_)
      rw [if_pos (by kernel_rfl)]
      refine wpr_of_list ?_
      (first | ((with_reducible apply (wpl_storeO2 ⟨oid, wh, nx + 1, now, A7, c7, vb ++ pd⟩)); exact rfl; exact rfl; (show (nx : Int) + 1 = ((nx + 1 : Nat) : Int); omega); (first | exact HBL.out | (exact HBL.out.trans (by omega))); infer_instance; (exact hil); intro wp _ hO9) | ((with_reducible apply (wpl_indexE (α := OM) (t := 36))); exact rfl; exact rfl; infer_instance; infer_instance; (first | with_reducible assumption | omega | (focus (simp; done)) | (focus (simp; omega; done)) | decide); exact rfl; (decide); (first | with_reducible assumption | omega | (focus (simp; done)) | (focus (simp; omega; done)) | decide)) | ((with_reducible apply (wpl_indexE0 (α := OM) (t := 36))); exact rfl; infer_instance; infer_instance; (first | with_reducible assumption | omega | (focus (simp; done)) | (focus (simp; omega; done)) | decide); exact rfl; (decide); (first | with_reducible assumption | omega | (focus (simp; done)) | (focus (simp; omega; done)) | decide)) | ((with_reducible apply wpl_indexB0); exact rfl; infer_instance; infer_instance; (first | with_reducible assumption | (with_reducible exact H32.len _) | (focus (simp; done)) | omega); (first | with_reducible assumption | omega)) | ((with_reducible apply wpl_indexB); exact rfl; exact rfl; infer_instance; infer_instance; (first | with_reducible assumption | (with_reducible exact H32.len _) | (focus (simp; done)) | omega); (first | with_reducible assumption | omega)))
      refine wpList_nil ?_
      unfold onlyN
      refine hK_.out _ _ inferInstance (fun _ => ?_)
      clear hK_ K_
      try simp only [Act.put, sA]; try simp only [sB, sC]
      refine goH (i := 7) (by kernel_rfl) rfl (fun K_ hK_ => ?_)
      rw [if_pos (by kernel_rfl)]
      refine wpr_of_list ?_
      (first | ((with_reducible apply (wpl_storeO2 ⟨oid, wh, nx + 1, now, A7, c7, vb ++ pd⟩)); exact rfl; exact rfl; (show (nx : Int) + 1 = ((nx + 1 : Nat) : Int); omega); (first | exact HBL.out | (exact HBL.out.trans (by omega))); infer_instance; (exact hil); intro wp _ hO9) | ((with_reducible apply wpl_storerow); exact rfl; exact rfl; infer_instance; infer_instance; (first | with_reducible assumption | (with_reducible exact enc_sz _ rfl) | kernel_rfl); (first | with_reducible assumption | (with_reducible exact enc_sz _ rfl) | kernel_rfl); (first | (with_reducible exact u8s_one _) | with_reducible assumption | (with_reducible exact enc_one _) | kernel_rfl); intro ws _ _) | ((with_reducible apply wpl_storecell); exact rfl; exact rfl; infer_instance; exact rfl; (first | with_reducible assumption | omega | (focus (simp; done)) | (focus (simp; omega; done)) | decide); intro ws _ _) | ((with_reducible apply (wpl_storeint (t := 3))); exact rfl; exact rfl; infer_instance; (first | with_reducible assumption | omega); intro ws _ _) | ((with_reducible apply (wpl_storebyte (t := 5))); exact rfl; exact rfl; infer_instance; (first | with_reducible assumption | omega | (focus (simp; done)) | (focus (simp; omega; done)) | decide); (constructor <;> omega); intro ws _ _))
      refine wpList_nil ?_
      unfold onlyN
      refine hK_.out _ _ inferInstance (fun _ => ?_)
      clear hK_ K_
      try simp only [Act.put]
      refine wpAnyH_done (by kernel_rfl) ?_ _
      have hC : Chg (rowOf LA) w wp := (stepC (w0 := w)).chg
      have hBz : HB wp z 38 #[.slice LA m lc, .int .i64 s.N] := inferInstance
      have h7 : HO wp 5 1 A7 (0 + nb + (n - 1)) c7 (bs ([] ++ vb ++ pd)) := inferInstance
      have h7' : HO wp 5 1 A7 (vb ++ pd).length c7 (bs (vb ++ pd)) := by rw [HBL.out]; rw [Nat.zero_add] at h7; exact h7
      have hXS := XS.setDone h hlm hi0 hr hx hC hBz hO9 h7' hN7 (hR2 A7 c7) rfl
      have hCX : Chg X w wp := hC.mono (fun x _ hk => by obtain ⟨ad, e, hk⟩ := hk; rw [← hk]; exact hi0 ad e)
      have hXw : ∀ x, X x ∨ rowOf A7 x → X x ∨ w.heap.size ≤ x := fun x hk => hk.imp (fun h => h) (fun ⟨ad, e, hk⟩ => by rw [← hk]; exact hN7.out ad e)
      have hZP : HB wp zo 90 #[.int .i64 oid, .int .i64 (wh : Int), .int .i64 ((nx : Int) + 1), .int .i64 now, .slice A7 (0 + nb + (n - 1)) c7] := inferInstance
      have hzz := h.low z h.inz
      go_wp2_with (first | go_skip | ((with_reducible apply wpl_alloc); intro z wz _ _ _) | ((with_reducible apply wpl_box_agg); exact rfl; intro z wz _ _ _) | ((with_reducible apply wpl_box_int); exact rfl; intro z wz _ _ _) | ((with_reducible apply wpl_box_slice); exact rfl; intro z wz _ _ _) | ((with_reducible apply wpl_box_str); exact rfl; intro z wz _ _ _) | ((with_reducible apply wpl_box_bool); exact rfl; intro z wz _ _ _) | ((with_reducible apply wpl_box_ptr); exact rfl; intro z wz _ _ _) | ((with_reducible apply (wpl_guard (op := .load _ _))); exact rfl) | ((with_reducible apply (wpl_guard (op := .fieldAddr _ _ _))); exact rfl) | ((with_reducible apply wpl_loadrow); exact rfl; infer_instance; infer_instance; (first | with_reducible assumption | (with_reducible exact enc_sz _ rfl) | kernel_rfl)) | ((with_reducible apply wpl_loadcellN); exact rfl; infer_instance; exact rfl) | ((with_reducible apply wpl_storerow); exact rfl; exact rfl; infer_instance; infer_instance; (first | with_reducible assumption | (with_reducible exact enc_sz _ rfl) | kernel_rfl); (first | with_reducible assumption | (with_reducible exact enc_sz _ rfl) | kernel_rfl); (first | (with_reducible exact u8s_one _) | with_reducible assumption | (with_reducible exact enc_one _) | kernel_rfl); intro ws _ _) | ((with_reducible apply wpl_storecell); exact rfl; exact rfl; infer_instance; exact rfl; (first | with_reducible assumption | omega | (focus (simp; done)) | (focus (simp; omega; done)) | decide); intro ws _ _))
      refine (xdropFalse_calls oid hXS (by show (if (s.G oid).isSome then s.m else s.m + 1) ≤ 1000000; split <;> omega)).mono ?_
      rintro e w3 ⟨rfl, X3, hX3, hCz, hXle⟩
      have hZ3 : HB w3 zo 90 #[.int .i64 oid, .int .i64 (wh : Int), .int .i64 ((nx : Int) + 1), .int .i64 now, .slice A7 (0 + nb + (n - 1)) c7] := ⟨hZP.out.chg hCz (fun e => hzo (by rw [show zo = z from e]; exact hzz))⟩
      go_wp2_with (first | go_skip | ((with_reducible apply wpl_alloc); intro z wz _ _ _) | ((with_reducible apply wpl_box_agg); exact rfl; intro z wz _ _ _) | ((with_reducible apply wpl_box_int); exact rfl; intro z wz _ _ _) | ((with_reducible apply wpl_box_slice); exact rfl; intro z wz _ _ _) | ((with_reducible apply wpl_box_str); exact rfl; intro z wz _ _ _) | ((with_reducible apply wpl_box_bool); exact rfl; intro z wz _ _ _) | ((with_reducible apply wpl_box_ptr); exact rfl; intro z wz _ _ _) | ((with_reducible apply (wpl_guard (op := .load _ _))); exact rfl) | ((with_reducible apply (wpl_guard (op := .fieldAddr _ _ _))); exact rfl) | ((with_reducible apply wpl_loadrow); exact rfl; infer_instance; infer_instance; (first | with_reducible assumption | (with_reducible exact enc_sz _ rfl) | kernel_rfl)) | ((with_reducible apply wpl_loadcellN); exact rfl; infer_instance; exact rfl) | ((with_reducible apply wpl_storerow); exact rfl; exact rfl; infer_instance; infer_instance; (first | with_reducible assumption | (with_reducible exact enc_sz _ rfl) | kernel_rfl); (first | with_reducible assumption | (with_reducible exact enc_sz _ rfl) | kernel_rfl); (first | (with_reducible exact u8s_one _) | with_reducible assumption | (with_reducible exact enc_one _) | kernel_rfl); intro ws _ _) | ((with_reducible apply wpl_storecell); exact rfl; exact rfl; infer_instance; exact rfl; (first | with_reducible assumption | omega | (focus (simp; done)) | (focus (simp; omega; done)) | decide); intro ws _ _))
      go_ret2
      rw [put_del HG.out] at hX3
      refine ⟨A7, c7, ?_, ⟨X3, hX3, hCX.trans hCz (fun x _ hk => by rw [show x = z from hk]; exact h.inz), fun x hk => ?_⟩, h7'.out.rd.chg hCz (fun _ ad e hk => by have q1 := hN7.out ad e; have q2 : ad.block = z := hk; omega)⟩
      · show Ending.returned (.tuple #[.slice A7 wh c7, .bool true]) = Ending.returned (.tuple #[.slice A7 (vb ++ pd).length c7, .bool true])
        rw [HBL.out, full]
      · rcases hXle x hk with hk | hk
        · exact hXw x hk
        · exact .inr (Nat.le_trans hC.size hk)
  · rw [if_neg full]
    have b2 : ((nb : Int) + ((n - 1 : Nat) : Int) == (wh : Int)) = false := beqF (by omega)
    go_enter Try.func35, Try.ntmps35
    go_wp2_with (first | go_skip | ((with_reducible apply (wpl_alloc (dst := some 4))); intro zf wzf _ _ _) | ((with_reducible apply (wpl_box_agg (dst := some 4))); exact rfl; intro zf wzf _ _ _) | ((with_reducible apply (wpl_box_int (dst := some 4))); exact rfl; intro zf wzf _ _ _) | ((with_reducible apply (wpl_box_slice (dst := some 4))); exact rfl; intro zf wzf _ _ _) | ((with_reducible apply (wpl_box_str (dst := some 4))); exact rfl; intro zf wzf _ _ _) | ((with_reducible apply (wpl_box_bool (dst := some 4))); exact rfl; intro zf wzf _ _ _) | ((with_reducible apply (wpl_box_ptr (dst := some 4))); exact rfl; intro zf wzf _ _ _) | ((with_reducible apply wpl_alloc); intro z wz _ _ _) | ((with_reducible apply wpl_box_agg); exact rfl; intro z wz _ _ _) | ((with_reducible apply wpl_box_int); exact rfl; intro z wz _ _ _) | ((with_reducible apply wpl_box_slice); exact rfl; intro z wz _ _ _) | ((with_reducible apply wpl_box_str); exact rfl; intro z wz _ _ _) | ((with_reducible apply wpl_box_bool); exact rfl; intro z wz _ _ _) | ((with_reducible apply wpl_box_ptr); exact rfl; intro z wz _ _ _) | ((with_reducible apply (wpl_guard (op := .load _ _))); exact rfl) | ((with_reducible apply (wpl_guard (op := .fieldAddr _ _ _))); exact rfl) | ((with_reducible apply wpl_loadrow); exact rfl; infer_instance; infer_instance; (first | with_reducible assumption | (with_reducible exact enc_sz _ rfl) | kernel_rfl)) | ((with_reducible apply wpl_loadcellN); exact rfl; infer_instance; exact rfl) | ((with_reducible apply wpl_storerow); exact rfl; exact rfl; infer_instance; infer_instance; (first | with_reducible assumption | (with_reducible exact enc_sz _ rfl) | kernel_rfl); (first | with_reducible assumption | (with_reducible exact enc_sz _ rfl) | kernel_rfl); (first | (with_reducible exact u8s_one _) | with_reducible assumption | (with_reducible exact enc_one _) | kernel_rfl); intro ws _ _) | ((with_reducible apply wpl_storecell); exact rfl; exact rfl; infer_instance; exact rfl; (first | with_reducible assumption | omega | (focus (simp; done)) | (focus (simp; omega; done)) | decide); intro ws _ _))
    refine (at_calls (l := l) oid hlm (by omega)).mono ?_
    rintro e w1 ⟨r, rfl, hs1, hat⟩
    obtain rfl : r = (i : Int) := by
      rcases hat with ⟨_, hno⟩ | ⟨i', rfl, hil', hid'⟩
      · exact absurd (by rw [HGT.out]) (hno i hil)
      · rw [hq.inj i' i hil' hil (by rw [hid', HGT.out])]
    have hi9 : ¬ (i : Int) < 0 := by omega
    clear hat
    have hil2 : i < m := by omega
    have hRv : HR w1 pA (bs vb) := inferInstance
    go_wp2_with (first | go_skip | ((with_reducible apply wpl_loadO); exact rfl; infer_instance; (exact hil); (exact HGT.out); (exact HNB.out)) | ((with_reducible apply wpl_mineq); exact rfl; exact rfl; (exact HM.out)) | ((with_reducible apply (wpl_alloc (dst := some 9))); intro zo wzo _ _ _) | ((with_reducible apply (wpl_box_agg (dst := some 9))); exact rfl; intro zo wzo _ _ _) | ((with_reducible apply (wpl_box_int (dst := some 9))); exact rfl; intro zo wzo _ _ _) | ((with_reducible apply (wpl_box_slice (dst := some 9))); exact rfl; intro zo wzo _ _ _) | ((with_reducible apply (wpl_box_str (dst := some 9))); exact rfl; intro zo wzo _ _ _) | ((with_reducible apply (wpl_box_bool (dst := some 9))); exact rfl; intro zo wzo _ _ _) | ((with_reducible apply (wpl_box_ptr (dst := some 9))); exact rfl; intro zo wzo _ _ _) | ((with_reducible apply wpl_alloc); intro z wz _ _ _) | ((with_reducible apply wpl_box_agg); exact rfl; intro z wz _ _ _) | ((with_reducible apply wpl_box_int); exact rfl; intro z wz _ _ _) | ((with_reducible apply wpl_box_slice); exact rfl; intro z wz _ _ _) | ((with_reducible apply wpl_box_str); exact rfl; intro z wz _ _ _) | ((with_reducible apply wpl_box_bool); exact rfl; intro z wz _ _ _) | ((with_reducible apply wpl_box_ptr); exact rfl; intro z wz _ _ _) | ((with_reducible apply (wpl_guard (op := .load _ _))); exact rfl) | ((with_reducible apply (wpl_guard (op := .fieldAddr _ _ _))); exact rfl) | ((with_reducible apply wpl_loadrow); exact rfl; infer_instance; infer_instance; (first | with_reducible assumption | (with_reducible exact enc_sz _ rfl) | kernel_rfl)) | ((with_reducible apply wpl_loadcellN); exact rfl; infer_instance; exact rfl) | ((with_reducible apply wpl_storerow); exact rfl; exact rfl; infer_instance; infer_instance; (first | with_reducible assumption | (with_reducible exact enc_sz _ rfl) | kernel_rfl); (first | with_reducible assumption | (with_reducible exact enc_sz _ rfl) | kernel_rfl); (first | (with_reducible exact u8s_one _) | with_reducible assumption | (with_reducible exact enc_one _) | kernel_rfl); intro ws _ _) | ((with_reducible apply wpl_storecell); exact rfl; exact rfl; infer_instance; exact rfl; (first | with_reducible assumption | omega | (focus (simp; done)) | (focus (simp; omega; done)) | decide); intro ws _ _) | ((with_reducible apply wpl_sl_lh); exact rfl; exact rfl; exact rfl; infer_instance; (first | with_reducible assumption | omega); (first | with_reducible assumption | omega)) | ((with_reducible apply wpl_sl_h); exact rfl; exact rfl; infer_instance; (first | with_reducible assumption | omega)) | ((with_reducible apply wpl_sl_l); exact rfl; exact rfl; infer_instance; (first | with_reducible assumption | omega)) | ((with_reducible apply wpl_min); exact rfl; exact rfl) | ((with_reducible apply wpl_appendB); exact rfl; exact rfl; infer_instance; (first | exact inferInstance | exact ⟨Own.nil _ _ _⟩); infer_instance; (first | with_reducible assumption | (with_reducible exact H32.len _) | (focus (simp; done)) | omega); (first | with_reducible assumption | omega); intro A' c' wa _ _ _ hcap) | ((with_reducible apply (wpl_indexE (α := OM) (t := 36))); exact rfl; exact rfl; infer_instance; infer_instance; (first | with_reducible assumption | omega | (focus (simp; done)) | (focus (simp; omega; done)) | decide); exact rfl; (decide); (first | with_reducible assumption | omega | (focus (simp; done)) | (focus (simp; omega; done)) | decide)) | ((with_reducible apply (wpl_indexE0 (α := OM) (t := 36))); exact rfl; infer_instance; infer_instance; (first | with_reducible assumption | omega | (focus (simp; done)) | (focus (simp; omega; done)) | decide); exact rfl; (decide); (first | with_reducible assumption | omega | (focus (simp; done)) | (focus (simp; omega; done)) | decide)) | ((with_reducible apply (wpl_loadE (α := OM) (t := 90))); infer_instance; exact rfl; infer_instance; exact rfl; (decide); (first | with_reducible assumption | omega | (focus (simp; done)) | (focus (simp; omega; done)) | decide)) | ((with_reducible apply (wpl_fieldE (t := 90))); (exact Try.underlying90); exact rfl; (kernel_rfl); exact rfl; infer_instance; (exact cells_pos (by decide) (by omega))) | ((with_reducible apply (wpl_loadF (α := OM))); infer_instance; exact rfl; infer_instance; exact rfl; (first | with_reducible assumption | omega | (focus (simp; done)) | (focus (simp; omega; done)) | decide); exact rfl) | ((with_reducible apply wpl_indexB0); exact rfl; infer_instance; infer_instance; (first | with_reducible assumption | (with_reducible exact H32.len _) | (focus (simp; done)) | omega); (first | with_reducible assumption | omega)) | ((with_reducible apply wpl_indexB); exact rfl; exact rfl; infer_instance; infer_instance; (first | with_reducible assumption | (with_reducible exact H32.len _) | (focus (simp; done)) | omega); (first | with_reducible assumption | omega)) | ((with_reducible apply (wpl_loadB (t := 5))); exact rfl; infer_instance; infer_instance; (first | with_reducible assumption | omega)) | ((with_reducible apply (wpl_loadint (t := 3))); exact rfl; infer_instance; infer_instance; (first | with_reducible assumption | omega)) | ((with_reducible apply (wpl_loadbyte (t := 5))); exact rfl; infer_instance; infer_instance; (first | with_reducible assumption | omega)) | ((with_reducible apply (wpl_storeint (t := 3))); exact rfl; exact rfl; infer_instance; (first | with_reducible assumption | omega); intro ws _ _) | ((with_reducible apply (wpl_storebyte (t := 5))); exact rfl; exact rfl; infer_instance; (first | with_reducible assumption | omega | (focus (simp; done)) | (focus (simp; omega; done)) | decide); (constructor <;> omega); intro ws _ _))
    refine wp_region_N (nowhere) (by kernel_rfl) (fun wd _ _ => ?_)
    refine' takeH (i := 0) (v := _) rfl (by kernel_rfl) (by kernel_rfl) (by kernel_rfl) (fun _ _ _ h => h) (yields_of (by rfl) (fun w' _ => ?_)) inferInstance ?_
    rotate_left
    · (first | ((with_reducible apply (ev_fieldE (t := 90))); (exact Try.underlying90); exact rfl; (kernel_rfl); exact rfl; infer_instance; (exact cells_pos (by decide) (by omega))) | (go_simp; try with_reducible rfl))
    try simp only [Act.put, sA]; try simp only [sB, sC]
    refine' takeH (i := 1) (v := _) rfl (by kernel_rfl) (by kernel_rfl) (by kernel_rfl) (fun _ _ _ h => h) (yields_of (by rfl) (fun w' _ => ?_)) inferInstance ?_
    rotate_left
    · (first | ((with_reducible apply (ev_loadB (t := 5))); exact rfl; infer_instance; infer_instance; (first | with_reducible assumption | omega)) | ((with_reducible apply ev_loadrow); exact rfl; infer_instance; infer_instance; (first | with_reducible assumption | (with_reducible exact enc_sz _ rfl) | kernel_rfl)) | ((with_reducible apply ev_loadcellN); exact rfl; infer_instance; infer_instance; exact rfl) | ((with_reducible apply (ev_loadE (α := OM) (t := 90))); infer_instance; exact rfl; infer_instance; exact rfl; (decide); (first | with_reducible assumption | omega | (focus (simp; done)) | (focus (simp; omega; done)) | decide)) | ((with_reducible apply (ev_loadF (α := OM))); infer_instance; exact rfl; infer_instance; exact rfl; (first | with_reducible assumption | omega | (focus (simp; done)) | (focus (simp; omega; done)) | decide); exact rfl) | ((with_reducible apply (ev_loadint (t := 3))); exact rfl; infer_instance; infer_instance; (first | with_reducible assumption | omega)) | ((with_reducible apply (ev_loadbyte (t := 5))); exact rfl; infer_instance; infer_instance; (first | with_reducible assumption | omega)) | (go_simp; try with_reducible rfl))
    try simp only [Act.put, sA]; try simp only [sB, sC]
    refine' takeH (i := 2) (v := _) rfl (by kernel_rfl) (by kernel_rfl) (by kernel_rfl) (fun _ _ _ h => h) (yields_of (by rfl) (fun w' _ => ?_)) inferInstance ?_
    rotate_left
    · (first | ((with_reducible apply ev_indexB0); exact rfl; infer_instance; infer_instance; (exact hn); (omega)) | ((with_reducible apply ev_indexB0); exact rfl; infer_instance; infer_instance; (first | with_reducible assumption | omega); (first | with_reducible assumption | omega)) | ((with_reducible apply ev_indexB); exact rfl; exact rfl; infer_instance; infer_instance; (first | with_reducible assumption | omega); (first | with_reducible assumption | omega)) | ((with_reducible apply (ev_indexE (α := OM) (t := 36))); exact rfl; exact rfl; infer_instance; infer_instance; (first | with_reducible assumption | omega | (focus (simp; done)) | (focus (simp; omega; done)) | decide); exact rfl; (decide); (first | with_reducible assumption | omega | (focus (simp; done)) | (focus (simp; omega; done)) | decide)) | ((with_reducible apply (ev_indexE0 (α := OM) (t := 36))); exact rfl; infer_instance; infer_instance; (first | with_reducible assumption | omega | (focus (simp; done)) | (focus (simp; omega; done)) | decide); exact rfl; (decide); (first | with_reducible assumption | omega | (focus (simp; done)) | (focus (simp; omega; done)) | decide)) | (go_simp; try with_reducible rfl))
    try simp only [Act.put, sA]; try simp only [sB, sC]
    refine' takeH (i := 3) (v := _) rfl (by kernel_rfl) (by kernel_rfl) (by kernel_rfl) (fun _ _ _ h => h) (yields_of (by rfl) (fun w' _ => ?_)) inferInstance ?_
    rotate_left
    · (first | ((with_reducible apply (ev_loadB (t := 5))); exact rfl; infer_instance; infer_instance; (first | with_reducible assumption | omega)) | ((with_reducible apply ev_loadrow); exact rfl; infer_instance; infer_instance; (first | with_reducible assumption | (with_reducible exact enc_sz _ rfl) | kernel_rfl)) | ((with_reducible apply ev_loadcellN); exact rfl; infer_instance; infer_instance; exact rfl) | ((with_reducible apply (ev_loadE (α := OM) (t := 90))); infer_instance; exact rfl; infer_instance; exact rfl; (decide); (first | with_reducible assumption | omega | (focus (simp; done)) | (focus (simp; omega; done)) | decide)) | ((with_reducible apply (ev_loadF (α := OM))); infer_instance; exact rfl; infer_instance; exact rfl; (first | with_reducible assumption | omega | (focus (simp; done)) | (focus (simp; omega; done)) | decide); exact rfl) | ((with_reducible apply (ev_loadint (t := 3))); exact rfl; infer_instance; infer_instance; (first | with_reducible assumption | omega)) | ((with_reducible apply (ev_loadbyte (t := 5))); exact rfl; infer_instance; infer_instance; (first | with_reducible assumption | omega)) | (go_simp; try with_reducible rfl))
    try simp only [Act.put, sA]; try simp only [sB, sC]
    refine' takeH (i := 4) (v := _) rfl (by kernel_rfl) (by kernel_rfl) (by kernel_rfl) (fun _ _ _ h => h) (yields_of (by rfl) (fun w' _ => ?_)) inferInstance ?_
    rotate_left
    · (go_simp; try with_reducible rfl)
    try simp only [Act.put, sA]; try simp only [sB, sC]
    try simp only [F1.out]
    try simp only [F2.out]
    refine' takeH (i := 5) (v := _) rfl (by kernel_rfl) (by kernel_rfl) (by kernel_rfl) (fun _ _ _ h => h) (yields_of (by rfl) (fun w' _ => ?_)) inferInstance ?_
    rotate_left
    · (go_simp; try with_reducible rfl)
    try simp only [Act.put, sA]; try simp only [sB, sC]
    refine' takeH (i := 6) (v := _) rfl (by kernel_rfl) (by kernel_rfl) (by kernel_rfl) (fun _ _ _ h => h) (yields_of (by rfl) (fun w' _ => ?_)) inferInstance ?_
    rotate_left
    · (first | ((with_reducible apply (ev_fieldE (t := 90))); (exact Try.underlying90); exact rfl; (kernel_rfl); exact rfl; infer_instance; (exact cells_pos (by decide) (by omega))) | (go_simp; try with_reducible rfl))
    try simp only [Act.put, sA]; try simp only [sB, sC]
    refine' takeH (i := 7) (v := _) rfl (by kernel_rfl) (by kernel_rfl) (by kernel_rfl) (fun _ _ _ h => h) (yields_of (by rfl) (fun w' _ => ?_)) inferInstance ?_
    rotate_left
    · (first | ((with_reducible apply (ev_loadB (t := 5))); exact rfl; infer_instance; infer_instance; (first | with_reducible assumption | omega)) | ((with_reducible apply ev_loadrow); exact rfl; infer_instance; infer_instance; (first | with_reducible assumption | (with_reducible exact enc_sz _ rfl) | kernel_rfl)) | ((with_reducible apply ev_loadcellN); exact rfl; infer_instance; infer_instance; exact rfl) | ((with_reducible apply (ev_loadE (α := OM) (t := 90))); infer_instance; exact rfl; infer_instance; exact rfl; (decide); (first | with_reducible assumption | omega | (focus (simp; done)) | (focus (simp; omega; done)) | decide)) | ((with_reducible apply (ev_loadF (α := OM))); infer_instance; exact rfl; infer_instance; exact rfl; (first | with_reducible assumption | omega | (focus (simp; done)) | (focus (simp; omega; done)) | decide); exact rfl) | ((with_reducible apply (ev_loadint (t := 3))); exact rfl; infer_instance; infer_instance; (first | with_reducible assumption | omega)) | ((with_reducible apply (ev_loadbyte (t := 5))); exact rfl; infer_instance; infer_instance; (first | with_reducible assumption | omega)) | (go_simp; try with_reducible rfl))
    try simp only [Act.put, sA]; try simp only [sB, sC]
    refine' takeH (i := 8) (v := _) rfl (by kernel_rfl) (by kernel_rfl) (by kernel_rfl) (fun _ _ _ h => h) (yields_of (by rfl) (fun w' _ => ?_)) inferInstance ?_
    rotate_left
    · (go_simp; try with_reducible rfl)
    try simp only [Act.put, sA]; try simp only [sB, sC]
    try simp only [F1.out]
    try simp only [F2.out]
    refine' takeH (i := 9) (v := _) rfl (by kernel_rfl) (by kernel_rfl) (by kernel_rfl) (fun _ _ _ h => h) (yields_of (by rfl) (fun w' _ => ?_)) inferInstance ?_
    rotate_left
    · (go_simp; try with_reducible rfl)
    try simp only [Act.put, sA]; try simp only [sB, sC]
    try simp only [F1.out]
    try simp only [F2.out]
    refine' takeH (i := 10) (v := _) rfl (by kernel_rfl) (by kernel_rfl) (by kernel_rfl) (fun _ _ _ h => h) (yields_of (by rfl) (fun w' _ => ?_)) inferInstance ?_
    rotate_left
    · (go_simp; try with_reducible rfl)
    try simp only [Act.put, sA]; try simp only [sB, sC]
    refine' takeH (i := 11) (v := _) rfl (by kernel_rfl) (by kernel_rfl) (by kernel_rfl) (fun _ _ _ h => h) (yields_of (by rfl) (fun w' _ => ?_)) inferInstance ?_
    rotate_left
    · (first | ((with_reducible apply (ev_fieldE (t := 90))); (exact Try.underlying90); exact rfl; (kernel_rfl); exact rfl; infer_instance; (exact cells_pos (by decide) (by omega))) | (go_simp; try with_reducible rfl))
    try simp only [Act.put, sA]; try simp only [sB, sC]
    refine' takeH (i := 12) (v := _) rfl (by kernel_rfl) (by kernel_rfl) (by kernel_rfl) (fun _ _ _ h => h) (yields_of (by rfl) (fun w' _ => ?_)) inferInstance ?_
    rotate_left
    · (first | ((with_reducible apply (ev_loadB (t := 5))); exact rfl; infer_instance; infer_instance; (first | with_reducible assumption | omega)) | ((with_reducible apply ev_loadrow); exact rfl; infer_instance; infer_instance; (first | with_reducible assumption | (with_reducible exact enc_sz _ rfl) | kernel_rfl)) | ((with_reducible apply ev_loadcellN); exact rfl; infer_instance; infer_instance; exact rfl) | ((with_reducible apply (ev_loadE (α := OM) (t := 90))); infer_instance; exact rfl; infer_instance; exact rfl; (decide); (first | with_reducible assumption | omega | (focus (simp; done)) | (focus (simp; omega; done)) | decide)) | ((with_reducible apply (ev_loadF (α := OM))); infer_instance; exact rfl; infer_instance; exact rfl; (first | with_reducible assumption | omega | (focus (simp; done)) | (focus (simp; omega; done)) | decide); exact rfl) | ((with_reducible apply (ev_loadint (t := 3))); exact rfl; infer_instance; infer_instance; (first | with_reducible assumption | omega)) | ((with_reducible apply (ev_loadbyte (t := 5))); exact rfl; infer_instance; infer_instance; (first | with_reducible assumption | omega)) | (go_simp; try with_reducible rfl))
    try simp only [Act.put, sA]; try simp only [sB, sC]
    refine' takeH (i := 13) (v := _) rfl (by kernel_rfl) (by kernel_rfl) (by kernel_rfl) (fun _ _ _ h => h) (yields_of (by rfl) (fun w' _ => ?_)) inferInstance ?_
    rotate_left
    · (go_simp; try with_reducible rfl)
    try simp only [Act.put, sA]; try simp only [sB, sC]
    refine' takeH (i := 14) (v := _) rfl (by kernel_rfl) (by kernel_rfl) (by kernel_rfl) (fun _ _ _ h => h) (yields_of (by rfl) (fun w' _ => ?_)) inferInstance ?_
    rotate_left
    · (go_simp; try with_reducible rfl)
    try simp only [Act.put, sA]; try simp only [sB, sC]
    refine' takeH (i := 15) (v := _) rfl (by kernel_rfl) (by kernel_rfl) (by kernel_rfl) (fun _ _ _ h => h) (yields_of (by rfl) (fun w' _ => ?_)) inferInstance ?_
    rotate_left
    · (go_simp; try with_reducible rfl)
    try simp only [Act.put, sA]; try simp only [sB, sC]
    try simp only [F1.out]
    try simp only [F2.out]
    refine' takeH (i := 16) (v := _) rfl (by kernel_rfl) (by kernel_rfl) (by kernel_rfl) (fun _ _ _ h => h) (yields_of (by rfl) (fun w' _ => ?_)) inferInstance ?_
    rotate_left
    · (go_simp; try with_reducible rfl)
    try simp only [Act.put, sA]; try simp only [sB, sC]
    try simp only [F1.out]
    try simp only [F2.out]
    refine' takeH (i := 17) (v := _) rfl (by kernel_rfl) (by kernel_rfl) (by kernel_rfl) (fun _ _ _ h => h) (yields_of (by rfl) (fun w' _ => ?_)) inferInstance ?_
    rotate_left
    · (go_simp; try with_reducible rfl)
    try simp only [Act.put, sA]; try simp only [sB, sC]
    refine wpAnyH_done (by kernel_rfl) ?_ _
    go_wp2_with fail
    refine wp_region_N ((only zo)) (by kernel_rfl) (fun wd _ _ => ?_)
    refine' takeH (i := 1) (v := _) rfl (by kernel_rfl) (by kernel_rfl) (by kernel_rfl) (fun _ _ _ h => h) (yields_of (by rfl) (fun w' _ => ?_)) inferInstance ?_
    rotate_left
    · (first | ((with_reducible apply (ev_fieldE (t := 90))); (exact Try.underlying90); exact rfl; (kernel_rfl); exact rfl; infer_instance; (exact cells_pos (by decide) (by omega))) | (go_simp; try with_reducible rfl))
    try simp only [Act.put, sA]; try simp only [sB, sC]
    refine' takeH (i := 4) (v := _) rfl (by kernel_rfl) (by kernel_rfl) (by kernel_rfl) (fun _ _ _ h => h) (yields_of (by rfl) (fun w' _ => ?_)) inferInstance ?_
    rotate_left
    · (first | ((with_reducible apply (ev_fieldE (t := 90))); (exact Try.underlying90); exact rfl; (kernel_rfl); exact rfl; infer_instance; (exact cells_pos (by decide) (by omega))) | (go_simp; try with_reducible rfl))
    try simp only [Act.put, sA]; try simp only [sB, sC]
    refine' takeH (i := 5) (v := _) rfl (by kernel_rfl) (by kernel_rfl) (by kernel_rfl) (fun _ _ _ h => h) (yields_of (by rfl) (fun w' _ => ?_)) inferInstance ?_
    rotate_left
    · (first | ((with_reducible apply (ev_loadB (t := 5))); exact rfl; infer_instance; infer_instance; (first | with_reducible assumption | omega)) | ((with_reducible apply ev_loadrow); exact rfl; infer_instance; infer_instance; (first | with_reducible assumption | (with_reducible exact enc_sz _ rfl) | kernel_rfl)) | ((with_reducible apply ev_loadcellN); exact rfl; infer_instance; infer_instance; exact rfl) | ((with_reducible apply (ev_loadE (α := OM) (t := 90))); infer_instance; exact rfl; infer_instance; exact rfl; (decide); (first | with_reducible assumption | omega | (focus (simp; done)) | (focus (simp; omega; done)) | decide)) | ((with_reducible apply (ev_loadF (α := OM))); infer_instance; exact rfl; infer_instance; exact rfl; (first | with_reducible assumption | omega | (focus (simp; done)) | (focus (simp; omega; done)) | decide); exact rfl) | ((with_reducible apply (ev_loadint (t := 3))); exact rfl; infer_instance; infer_instance; (first | with_reducible assumption | omega)) | ((with_reducible apply (ev_loadbyte (t := 5))); exact rfl; infer_instance; infer_instance; (first | with_reducible assumption | omega)) | (go_simp; try with_reducible rfl))
    try simp only [Act.put, sA]; try simp only [sB, sC]
    refine' takeH (i := 6) (v := _) rfl (by kernel_rfl) (by kernel_rfl) (by kernel_rfl) (fun _ _ _ h => h) (yields_of (by rfl) (fun w' _ => ?_)) inferInstance ?_
    rotate_left
    · (first | ((with_reducible apply ev_sl_l1); exact rfl; infer_instance; (first | with_reducible assumption | omega)) | ((with_reducible apply ev_sl_lh); exact rfl; exact rfl; exact rfl; infer_instance; (first | with_reducible assumption | omega); (first | with_reducible assumption | omega)) | ((with_reducible apply ev_sl_h); exact rfl; exact rfl; infer_instance; (first | with_reducible assumption | omega)) | ((with_reducible apply ev_sl_l); exact rfl; exact rfl; infer_instance; (first | with_reducible assumption | omega)) | (go_simp; try with_reducible rfl))
    try simp only [Act.put, sA]; try simp only [sB, sC]
    refine wpAnyH_ready (rs := [0, 2]) (by kernel_rfl) (by simp) (AllReadyH.cons rfl (fun K_ hK_ => ?br2_0) (AllReadyH.cons rfl (fun K_ hK_ => ?br2_2) AllReadyH.nil))
    case' br2_0 =>
      rw [if_pos (by kernel_rfl)]
      refine wpr_of_list ?_
      (first | ((with_reducible apply (stop_dst (dst := some 60))); (try simp only [Act.put, sA, sB, sC]); ((with_reducible apply (wpl_bslice (dst := some 60))); (exact run_empty _); intro zn wb _ _ _)) | ((with_reducible apply (stop_dst (dst := some 63))); (with_reducible apply wpl_appendB); exact rfl; exact rfl; infer_instance; infer_instance; infer_instance; (exact HNB.out); omega; intro A6 c6 wa6 _ ho6 g6 hcap6) | ((with_reducible apply (stop_dst (dst := some 67))); (with_reducible apply wpl_appendB); exact rfl; exact rfl; infer_instance; infer_instance; infer_instance; (exact HPL.out); omega; intro A7 c7 wa7 _ ho7 g7 hcap7; have oz7 : OffA (only zo) A7 := ⟨fun ad e hk => own_no_blk ho7.out (inferInstance : HB wa7 zo _ _).out (by decide) e hk⟩))
      refine wpList_nil ?_
      unfold onlyN
      refine hK_.out _ _ inferInstance (fun _ => ?_)
      clear hK_ K_
      try simp only [Act.put, sA]; try simp only [sB, sC]
      refine goH (i := 2) (by kernel_rfl) rfl (fun K_ hK_ => ?_)
      rw [if_pos (by kernel_rfl)]
      refine wpr_of_list ?_
      (first | ((with_reducible apply (stop_dst (dst := some 60))); (try simp only [Act.put, sA, sB, sC]); ((with_reducible apply (wpl_bslice (dst := some 60))); (exact run_empty _); intro zn wb _ _ _)) | ((with_reducible apply (stop_dst (dst := some 63))); (with_reducible apply wpl_appendB); exact rfl; exact rfl; infer_instance; infer_instance; infer_instance; (exact HNB.out); omega; intro A6 c6 wa6 _ ho6 g6 hcap6) | ((with_reducible apply (stop_dst (dst := some 67))); (with_reducible apply wpl_appendB); exact rfl; exact rfl; infer_instance; infer_instance; infer_instance; (exact HPL.out); omega; intro A7 c7 wa7 _ ho7 g7 hcap7; have oz7 : OffA (only zo) A7 := ⟨fun ad e hk => own_no_blk ho7.out (inferInstance : HB wa7 zo _ _).out (by decide) e hk⟩) | ((with_reducible apply wpl_loadrow); exact rfl; infer_instance; infer_instance; (first | with_reducible assumption | (with_reducible exact enc_sz _ rfl) | kernel_rfl)) | ((with_reducible apply wpl_loadcellN); exact rfl; infer_instance; exact rfl) | ((with_reducible apply (wpl_loadE (α := OM) (t := 90))); infer_instance; exact rfl; infer_instance; exact rfl; (decide); (first | with_reducible assumption | omega | (focus (simp; done)) | (focus (simp; omega; done)) | decide)) | ((with_reducible apply (wpl_loadF (α := OM))); infer_instance; exact rfl; infer_instance; exact rfl; (first | with_reducible assumption | omega | (focus (simp; done)) | (focus (simp; omega; done)) | decide); exact rfl) | ((with_reducible apply (wpl_loadB (t := 5))); exact rfl; infer_instance; infer_instance; (first | with_reducible assumption | omega)) | ((with_reducible apply (wpl_loadint (t := 3))); exact rfl; infer_instance; infer_instance; (first | with_reducible assumption | omega)) | ((with_reducible apply (wpl_loadbyte (t := 5))); exact rfl; infer_instance; infer_instance; (first | with_reducible assumption | omega)))
      refine wpList_nil ?_
      unfold onlyN
      refine hK_.out _ _ inferInstance (fun _ => ?_)
      clear hK_ K_
      try simp only [Act.put, sA]; try simp only [sB, sC]
      refine goH (i := 3) (by kernel_rfl) rfl (fun K_ hK_ => ?_)
      rw [if_pos (by kernel_rfl)]
      refine wpr_of_list ?_
      (first | ((with_reducible apply (stop_dst (dst := some 60))); (try simp only [Act.put, sA, sB, sC]); ((with_reducible apply (wpl_bslice (dst := some 60))); (exact run_empty _); intro zn wb _ _ _)) | ((with_reducible apply (stop_dst (dst := some 63))); (with_reducible apply wpl_appendB); exact rfl; exact rfl; infer_instance; infer_instance; infer_instance; (exact HNB.out); omega; intro A6 c6 wa6 _ ho6 g6 hcap6) | ((with_reducible apply (stop_dst (dst := some 67))); (with_reducible apply wpl_appendB); exact rfl; exact rfl; infer_instance; infer_instance; infer_instance; (exact HPL.out); omega; intro A7 c7 wa7 _ ho7 g7 hcap7; have oz7 : OffA (only zo) A7 := ⟨fun ad e hk => own_no_blk ho7.out (inferInstance : HB wa7 zo _ _).out (by decide) e hk⟩) | ((with_reducible apply wpl_appendB); exact rfl; exact rfl; infer_instance; (first | exact inferInstance | exact ⟨Own.nil _ _ _⟩); infer_instance; (first | with_reducible assumption | (with_reducible exact H32.len _) | (focus (simp; done)) | omega); (first | with_reducible assumption | omega); intro A' c' wa _ _ _ hcap))
      refine wpList_nil ?_
      unfold onlyN
      refine hK_.out _ _ inferInstance (fun _ => ?_)
      clear hK_ K_
      try simp only [Act.put, sA]; try simp only [sB, sC]
      refine goH (i := 7) (by kernel_rfl) rfl (fun K_ hK_ => ?_)
      rw [if_pos (by kernel_rfl)]
      refine wpr_of_list ?_
      (first | ((with_reducible apply (stop_dst (dst := some 60))); (try simp only [Act.put, sA, sB, sC]); ((with_reducible apply (wpl_bslice (dst := some 60))); (exact run_empty _); intro zn wb _ _ _)) | ((with_reducible apply (stop_dst (dst := some 63))); (with_reducible apply wpl_appendB); exact rfl; exact rfl; infer_instance; infer_instance; infer_instance; (exact HNB.out); omega; intro A6 c6 wa6 _ ho6 g6 hcap6) | ((with_reducible apply (stop_dst (dst := some 67))); (with_reducible apply wpl_appendB); exact rfl; exact rfl; infer_instance; infer_instance; infer_instance; (exact HPL.out); omega; intro A7 c7 wa7 _ ho7 g7 hcap7; have oz7 : OffA (only zo) A7 := ⟨fun ad e hk => own_no_blk ho7.out (inferInstance : HB wa7 zo _ _).out (by decide) e hk⟩) | ((with_reducible apply wpl_appendB); exact rfl; exact rfl; infer_instance; (first | exact inferInstance | exact ⟨Own.nil _ _ _⟩); infer_instance; (first | with_reducible assumption | (with_reducible exact H32.len _) | (focus (simp; done)) | omega); (first | with_reducible assumption | omega); intro A' c' wa _ _ _ hcap))
      refine wpList_nil ?_
      unfold onlyN
      refine hK_.out _ _ inferInstance (fun _ => ?_)
      clear hK_ K_
      try simp only [Act.put, sA]; try simp only [sB, sC]
      refine' takeH (i := 8) (v := _) rfl (by kernel_rfl) (by kernel_rfl) (by kernel_rfl) (fun _ _ _ h => h) (yields_of (by rfl) (fun w' _ => ?_)) inferInstance ?_
      rotate_left
      · (first | ((with_reducible apply (ev_fieldE (t := 90))); (exact Try.underlying90); exact rfl; (kernel_rfl); exact rfl; infer_instance; (exact cells_pos (by decide) (by omega))) | (go_simp; try with_reducible rfl))
      try simp only [Act.put, sA]; try simp only [sB, sC]
      refine goH (i := 9) (by kernel_rfl) rfl (fun K_ hK_ => ?_)
      rw [if_pos (by kernel_rfl)]
      refine wpr_of_list ?_
      (first | ((with_reducible apply (stop_dst (dst := some 60))); (try simp only [Act.put, sA, sB, sC]); ((with_reducible apply (wpl_bslice (dst := some 60))); (exact run_empty _); intro zn wb _ _ _)) | ((with_reducible apply (stop_dst (dst := some 63))); (with_reducible apply wpl_appendB); exact rfl; exact rfl; infer_instance; infer_instance; infer_instance; (exact HNB.out); omega; intro A6 c6 wa6 _ ho6 g6 hcap6) | ((with_reducible apply (stop_dst (dst := some 67))); (with_reducible apply wpl_appendB); exact rfl; exact rfl; infer_instance; infer_instance; infer_instance; (exact HPL.out); omega; intro A7 c7 wa7 _ ho7 g7 hcap7; have oz7 : OffA (only zo) A7 := ⟨fun ad e hk => own_no_blk ho7.out (inferInstance : HB wa7 zo _ _).out (by decide) e hk⟩) | ((with_reducible apply wpl_storerow); exact rfl; exact rfl; infer_instance; infer_instance; (first | with_reducible assumption | (with_reducible exact enc_sz _ rfl) | kernel_rfl); (first | with_reducible assumption | (with_reducible exact enc_sz _ rfl) | kernel_rfl); (first | (with_reducible exact u8s_one _) | with_reducible assumption | (with_reducible exact enc_one _) | kernel_rfl); intro ws _ _) | ((with_reducible apply wpl_storecell); exact rfl; exact rfl; infer_instance; exact rfl; (first | with_reducible assumption | omega | (focus (simp; done)) | (focus (simp; omega; done)) | decide); intro ws _ _) | ((with_reducible apply (wpl_storeint (t := 3))); exact rfl; exact rfl; infer_instance; (first | with_reducible assumption | omega); intro ws _ _) | ((with_reducible apply (wpl_storebyte (t := 5))); exact rfl; exact rfl; infer_instance; (first | with_reducible assumption | omega | (focus (simp; done)) | (focus (simp; omega; done)) | decide); (constructor <;> omega); intro ws _ _))
      refine wpList_nil ?_
      unfold onlyN
      refine hK_.out _ _ inferInstance (fun _ => ?_)
      clear hK_ K_
      try simp only [Act.put]
      refine wpAnyH_done (by kernel_rfl) ?_ _
    case' br2_2 =>
      rw [if_pos (by kernel_rfl)]
      refine wpr_of_list ?_
      (first | ((with_reducible apply (stop_dst (dst := some 60))); (try simp only [Act.put, sA, sB, sC]); ((with_reducible apply (wpl_bslice (dst := some 60))); (exact run_empty _); intro zn wb _ _ _)) | ((with_reducible apply (stop_dst (dst := some 63))); (with_reducible apply wpl_appendB); exact rfl; exact rfl; infer_instance; infer_instance; infer_instance; (exact HNB.out); omega; intro A6 c6 wa6 _ ho6 g6 hcap6) | ((with_reducible apply (stop_dst (dst := some 67))); (with_reducible apply wpl_appendB); exact rfl; exact rfl; infer_instance; infer_instance; infer_instance; (exact HPL.out); omega; intro A7 c7 wa7 _ ho7 g7 hcap7; have oz7 : OffA (only zo) A7 := ⟨fun ad e hk => own_no_blk ho7.out (inferInstance : HB wa7 zo _ _).out (by decide) e hk⟩) | ((with_reducible apply wpl_loadrow); exact rfl; infer_instance; infer_instance; (first | with_reducible assumption | (with_reducible exact enc_sz _ rfl) | kernel_rfl)) | ((with_reducible apply wpl_loadcellN); exact rfl; infer_instance; exact rfl) | ((with_reducible apply (wpl_loadE (α := OM) (t := 90))); infer_instance; exact rfl; infer_instance; exact rfl; (decide); (first | with_reducible assumption | omega | (focus (simp; done)) | (focus (simp; omega; done)) | decide)) | ((with_reducible apply (wpl_loadF (α := OM))); infer_instance; exact rfl; infer_instance; exact rfl; (first | with_reducible assumption | omega | (focus (simp; done)) | (focus (simp; omega; done)) | decide); exact rfl) | ((with_reducible apply (wpl_loadB (t := 5))); exact rfl; infer_instance; infer_instance; (first | with_reducible assumption | omega)) | ((with_reducible apply (wpl_loadint (t := 3))); exact rfl; infer_instance; infer_instance; (first | with_reducible assumption | omega)) | ((with_reducible apply (wpl_loadbyte (t := 5))); exact rfl; infer_instance; infer_instance; (first | with_reducible assumption | omega)))
      refine wpList_nil ?_
      unfold onlyN
      refine hK_.out _ _ inferInstance (fun _ => ?_)
      clear hK_ K_
      try simp only [Act.put, sA]; try simp only [sB, sC]
      refine goH (i := 0) (by kernel_rfl) rfl (fun K_ hK_ => ?_)
      rw [if_pos (by kernel_rfl)]
      refine wpr_of_list ?_
      (first | ((with_reducible apply (stop_dst (dst := some 60))); (try simp only [Act.put, sA, sB, sC]); ((with_reducible apply (wpl_bslice (dst := some 60))); (exact run_empty _); intro zn wb _ _ _)) | ((with_reducible apply (stop_dst (dst := some 63))); (with_reducible apply wpl_appendB); exact rfl; exact rfl; infer_instance; infer_instance; infer_instance; (exact HNB.out); omega; intro A6 c6 wa6 _ ho6 g6 hcap6) | ((with_reducible apply (stop_dst (dst := some 67))); (with_reducible apply wpl_appendB); exact rfl; exact rfl; infer_instance; infer_instance; infer_instance; (exact HPL.out); omega; intro A7 c7 wa7 _ ho7 g7 hcap7; have oz7 : OffA (only zo) A7 := ⟨fun ad e hk => own_no_blk ho7.out (inferInstance : HB wa7 zo _ _).out (by decide) e hk⟩))
      refine wpList_nil ?_
      unfold onlyN
      refine hK_.out _ _ inferInstance (fun _ => ?_)
      clear hK_ K_
      try simp only [Act.put, sA]; try simp only [sB, sC]
      refine goH (i := 3) (by kernel_rfl) rfl (fun K_ hK_ => ?_)
      rw [if_pos (by kernel_rfl)]
      refine wpr_of_list ?_
      (first | ((with_reducible apply (stop_dst (dst := some 60))); (try simp only [Act.put, sA, sB, sC]); ((with_reducible apply (wpl_bslice (dst := some 60))); (exact run_empty _); intro zn wb _ _ _)) | ((with_reducible apply (stop_dst (dst := some 63))); (with_reducible apply wpl_appendB); exact rfl; exact rfl; infer_instance; infer_instance; infer_instance; (exact HNB.out); omega; intro A6 c6 wa6 _ ho6 g6 hcap6) | ((with_reducible apply (stop_dst (dst := some 67))); (with_reducible apply wpl_appendB); exact rfl; exact rfl; infer_instance; infer_instance; infer_instance; (exact HPL.out); omega; intro A7 c7 wa7 _ ho7 g7 hcap7; have oz7 : OffA (only zo) A7 := ⟨fun ad e hk => own_no_blk ho7.out (inferInstance : HB wa7 zo _ _).out (by decide) e hk⟩) | ((with_reducible apply wpl_appendB); exact rfl; exact rfl; infer_instance; (first | exact inferInstance | exact ⟨Own.nil _ _ _⟩); infer_instance; (first | with_reducible assumption | (with_reducible exact H32.len _) | (focus (simp; done)) | omega); (first | with_reducible assumption | omega); intro A' c' wa _ _ _ hcap))
      refine wpList_nil ?_
      unfold onlyN
      refine hK_.out _ _ inferInstance (fun _ => ?_)
      clear hK_ K_
      try simp only [Act.put, sA]; try simp only [sB, sC]
      refine goH (i := 7) (by kernel_rfl) rfl (fun K_ hK_ => ?_)
      rw [if_pos (by kernel_rfl)]
      refine wpr_of_list ?_
      (first | ((with_reducible apply (stop_dst (dst := some 60))); (try simp only [Act.put, sA, sB, sC]); ((with_reducible apply (wpl_bslice (dst := some 60))); (exact run_empty _); intro zn wb _ _ _)) | ((with_reducible apply (stop_dst (dst := some 63))); (with_reducible apply wpl_appendB); exact rfl; exact rfl; infer_instance; infer_instance; infer_instance; (exact HNB.out); omega; intro A6 c6 wa6 _ ho6 g6 hcap6) | ((with_reducible apply (stop_dst (dst := some 67))); (with_reducible apply wpl_appendB); exact rfl; exact rfl; infer_instance; infer_instance; infer_instance; (exact HPL.out); omega; intro A7 c7 wa7 _ ho7 g7 hcap7; have oz7 : OffA (only zo) A7 := ⟨fun ad e hk => own_no_blk ho7.out (inferInstance : HB wa7 zo _ _).out (by decide) e hk⟩) | ((with_reducible apply wpl_appendB); exact rfl; exact rfl; infer_instance; (first | exact inferInstance | exact ⟨Own.nil _ _ _⟩); infer_instance; (first | with_reducible assumption | (with_reducible exact H32.len _) | (focus (simp; done)) | omega); (first | with_reducible assumption | omega); intro A' c' wa _ _ _ hcap))
      refine wpList_nil ?_
      unfold onlyN
      refine hK_.out _ _ inferInstance (fun _ => ?_)
      clear hK_ K_
      try simp only [Act.put, sA]; try simp only [sB, sC]
      refine' takeH (i := 8) (v := _) rfl (by kernel_rfl) (by kernel_rfl) (by kernel_rfl) (fun _ _ _ h => h) (yields_of (by rfl) (fun w' _ => ?_)) inferInstance ?_
      rotate_left
      · (first | ((with_reducible apply (ev_fieldE (t := 90))); (exact Try.underlying90); exact rfl; (kernel_rfl); exact rfl; infer_instance; (exact cells_pos (by decide) (by omega))) | (go_simp; try with_reducible rfl))
      try simp only [Act.put, sA]; try simp only [sB, sC]
      refine goH (i := 9) (by kernel_rfl) rfl (fun K_ hK_ => ?_)
      rw [if_pos (by kernel_rfl)]
      refine wpr_of_list ?_
      (first | ((with_reducible apply (stop_dst (dst := some 60))); (try simp only [Act.put, sA, sB, sC]); ((with_reducible apply (wpl_bslice (dst := some 60))); (exact run_empty _); intro zn wb _ _ _)) | ((with_reducible apply (stop_dst (dst := some 63))); (with_reducible apply wpl_appendB); exact rfl; exact rfl; infer_instance; infer_instance; infer_instance; (exact HNB.out); omega; intro A6 c6 wa6 _ ho6 g6 hcap6) | ((with_reducible apply (stop_dst (dst := some 67))); (with_reducible apply wpl_appendB); exact rfl; exact rfl; infer_instance; infer_instance; infer_instance; (exact HPL.out); omega; intro A7 c7 wa7 _ ho7 g7 hcap7; have oz7 : OffA (only zo) A7 := ⟨fun ad e hk => own_no_blk ho7.out (inferInstance : HB wa7 zo _ _).out (by decide) e hk⟩) | ((with_reducible apply wpl_storerow); exact rfl; exact rfl; infer_instance; infer_instance; (first | with_reducible assumption | (with_reducible exact enc_sz _ rfl) | kernel_rfl); (first | with_reducible assumption | (with_reducible exact enc_sz _ rfl) | kernel_rfl); (first | (with_reducible exact u8s_one _) | with_reducible assumption | (with_reducible exact enc_one _) | kernel_rfl); intro ws _ _) | ((with_reducible apply wpl_storecell); exact rfl; exact rfl; infer_instance; exact rfl; (first | with_reducible assumption | omega | (focus (simp; done)) | (focus (simp; omega; done)) | decide); intro ws _ _) | ((with_reducible apply (wpl_storeint (t := 3))); exact rfl; exact rfl; infer_instance; (first | with_reducible assumption | omega); intro ws _ _) | ((with_reducible apply (wpl_storebyte (t := 5))); exact rfl; exact rfl; infer_instance; (first | with_reducible assumption | omega | (focus (simp; done)) | (focus (simp; omega; done)) | decide); (constructor <;> omega); intro ws _ _))
      refine wpList_nil ?_
      unfold onlyN
      refine hK_.out _ _ inferInstance (fun _ => ?_)
      clear hK_ K_
      try simp only [Act.put]
      refine wpAnyH_done (by kernel_rfl) ?_ _
    all_goals
      go_wp2_with (first | go_skip | ((with_reducible apply wpl_alloc); intro z wz _ _ _) | ((with_reducible apply wpl_box_agg); exact rfl; intro z wz _ _ _) | ((with_reducible apply wpl_box_int); exact rfl; intro z wz _ _ _) | ((with_reducible apply wpl_box_slice); exact rfl; intro z wz _ _ _) | ((with_reducible apply wpl_box_str); exact rfl; intro z wz _ _ _) | ((with_reducible apply wpl_box_bool); exact rfl; intro z wz _ _ _) | ((with_reducible apply wpl_box_ptr); exact rfl; intro z wz _ _ _) | ((with_reducible apply (wpl_guard (op := .load _ _))); exact rfl) | ((with_reducible apply (wpl_guard (op := .fieldAddr _ _ _))); exact rfl) | ((with_reducible apply wpl_loadrow); exact rfl; infer_instance; infer_instance; (first | with_reducible assumption | (with_reducible exact enc_sz _ rfl) | kernel_rfl)) | ((with_reducible apply wpl_loadcellN); exact rfl; infer_instance; exact rfl) | ((with_reducible apply wpl_storerow); exact rfl; exact rfl; infer_instance; infer_instance; (first | with_reducible assumption | (with_reducible exact enc_sz _ rfl) | kernel_rfl); (first | with_reducible assumption | (with_reducible exact enc_sz _ rfl) | kernel_rfl); (first | (with_reducible exact u8s_one _) | with_reducible assumption | (with_reducible exact enc_one _) | kernel_rfl); intro ws _ _) | ((with_reducible apply wpl_storecell); exact rfl; exact rfl; infer_instance; exact rfl; (first | with_reducible assumption | omega | (focus (simp; done)) | (focus (simp; omega; done)) | decide); intro ws _ _))
      have hzo : ¬ zo < w.heap.size := fun hlt => (inferInstance : Into w (only zo) nowhere).out zo hlt rfl
      have oLzo : OffB (rowOf LA) zo := ⟨fun ⟨ad, e, hk⟩ => hzo (by rw [← hk]; exact hO0.lt e)⟩
      have hzf : ¬ zf < w.heap.size := fun hlt => (inferInstance : Into w (only zf) nowhere).out zf hlt rfl
      have oLzf : OffB (rowOf LA) zf := ⟨fun ⟨ad, e, hk⟩ => hzf (by rw [← hk]; exact hO0.lt e)⟩
      have hN7 : NewA w A7 := NewA.monoS (w0 := w) inferInstance
      have oA7 : OffA (rowOf LA) A7 := OffA.newOld hN7 (fun ad e => hO0.lt e)
      have hZO : HB ws zo 90 #[.int .i64 oid, .int .i64 (wh : Int), .int .i64 ((nx : Int) + 1), .int .i64 now, .slice A7 (0 + nb + (n - 1)) c7] := inferInstance
      refine wp_region_N ((rowOf LA)) (by kernel_rfl) (fun wd _ _ => ?_)
      refine' takeH (i := 0) (v := _) rfl (by kernel_rfl) (by kernel_rfl) (by kernel_rfl) (fun _ _ _ h => h) (yields_of (by rfl) (fun w' _ => ?_)) inferInstance ?_
      rotate_left
      · (go_simp; try with_reducible rfl)
      try simp only [Act.put, sA]; try simp only [sB, sC]
      refine' takeH (i := 1) (v := _) rfl (by kernel_rfl) (by kernel_rfl) (by kernel_rfl) (fun _ _ _ h => h) (yields_of (by rfl) (fun w' _ => ?_)) inferInstance ?_
      rotate_left
      · (go_simp; try with_reducible rfl)
      try simp only [Act.put, sA]; try simp only [sB, sC]
      refine' takeH (i := 2) (v := _) rfl (by kernel_rfl) (by kernel_rfl) (by kernel_rfl) (fun _ _ _ h => h) (yields_of (by rfl) (fun w' _ => ?_)) inferInstance ?_
      rotate_left
      · (first | ((with_reducible apply (ev_fieldE (t := 90))); (exact Try.underlying90); exact rfl; (kernel_rfl); exact rfl; infer_instance; (exact cells_pos (by decide) (by omega))) | (go_simp; try with_reducible rfl))
      try simp only [Act.put, sA]; try simp only [sB, sC]
      refine' takeH (i := 3) (v := _) rfl (by kernel_rfl) (by kernel_rfl) (by kernel_rfl) (fun _ _ _ h => h) (yields_of (by rfl) (fun w' _ => ?_)) inferInstance ?_
      rotate_left
      · (first | ((with_reducible apply (ev_loadB (t := 5))); exact rfl; infer_instance; infer_instance; (first | with_reducible assumption | omega)) | ((with_reducible apply ev_loadrow); exact rfl; infer_instance; infer_instance; (first | with_reducible assumption | (with_reducible exact enc_sz _ rfl) | kernel_rfl)) | ((with_reducible apply ev_loadcellN); exact rfl; infer_instance; infer_instance; exact rfl) | ((with_reducible apply (ev_loadE (α := OM) (t := 90))); infer_instance; exact rfl; infer_instance; exact rfl; (decide); (first | with_reducible assumption | omega | (focus (simp; done)) | (focus (simp; omega; done)) | decide)) | ((with_reducible apply (ev_loadF (α := OM))); infer_instance; exact rfl; infer_instance; exact rfl; (first | with_reducible assumption | omega | (focus (simp; done)) | (focus (simp; omega; done)) | decide); exact rfl) | ((with_reducible apply (ev_loadint (t := 3))); exact rfl; infer_instance; infer_instance; (first | with_reducible assumption | omega)) | ((with_reducible apply (ev_loadbyte (t := 5))); exact rfl; infer_instance; infer_instance; (first | with_reducible assumption | omega)) | (go_simp; try with_reducible rfl))
      try simp only [Act.put, sA]; try simp only [sB, sC]
      refine' takeH (i := 4) (v := _) rfl (by kernel_rfl) (by kernel_rfl) (by kernel_rfl) (fun _ _ _ h => h) (yields_of (by rfl) (fun w' _ => ?_)) inferInstance ?_
      rotate_left
      · (go_simp; try with_reducible rfl)
      try simp only [Act.put, sA]; try simp only [sB, sC]
      refine' takeH (i := 5) (v := _) rfl (by kernel_rfl) (by kernel_rfl) (by kernel_rfl) (fun _ _ _ h => h) (yields_of (by rfl) (fun w' _ => ?_)) inferInstance ?_
      rotate_left
      · (first | ((with_reducible apply (ev_loadB (t := 5))); exact rfl; infer_instance; infer_instance; (first | with_reducible assumption | omega)) | ((with_reducible apply ev_loadrow); exact rfl; infer_instance; infer_instance; (first | with_reducible assumption | (with_reducible exact enc_sz _ rfl) | kernel_rfl)) | ((with_reducible apply ev_loadcellN); exact rfl; infer_instance; infer_instance; exact rfl) | ((with_reducible apply (ev_loadE (α := OM) (t := 90))); infer_instance; exact rfl; infer_instance; exact rfl; (decide); (first | with_reducible assumption | omega | (focus (simp; done)) | (focus (simp; omega; done)) | decide)) | ((with_reducible apply (ev_loadF (α := OM))); infer_instance; exact rfl; infer_instance; exact rfl; (first | with_reducible assumption | omega | (focus (simp; done)) | (focus (simp; omega; done)) | decide); exact rfl) | ((with_reducible apply (ev_loadint (t := 3))); exact rfl; infer_instance; infer_instance; (first | with_reducible assumption | omega)) | ((with_reducible apply (ev_loadbyte (t := 5))); exact rfl; infer_instance; infer_instance; (first | with_reducible assumption | omega)) | (go_simp; try with_reducible rfl))
      try simp only [Act.put, sA]; try simp only [sB, sC]
      refine goH (i := 6) (by kernel_rfl) rfl (fun K_ hK_ => ?_)
      rw [if_pos (by kernel_rfl)]
      refine wpr_of_list ?_
      (first | ((with_reducible apply (wpl_storeO2 ⟨oid, wh, nx + 1, now, A7, c7, vb ++ pd⟩)); exact rfl; exact rfl; (show (nx : Int) + 1 = ((nx + 1 : Nat) : Int); omega); (first | exact HBL.out | (exact HBL.out.trans (by omega))); infer_instance; (exact hil); intro wp _ hO9) | ((with_reducible apply (wpl_indexE (α := OM) (t := 36))); exact rfl; exact rfl; infer_instance; infer_instance; (first | with_reducible assumption | omega | (focus (simp; done)) | (focus (simp; omega; done)) | decide); exact rfl; (decide); (first | with_reducible assumption | omega | (focus (simp; done)) | (focus (simp; omega; done)) | decide)) | ((with_reducible apply (wpl_indexE0 (α := OM) (t := 36))); exact rfl; infer_instance; infer_instance; (first | with_reducible assumption | omega | (focus (simp; done)) | (focus (simp; omega; done)) | decide); exact rfl; (decide); (first | with_reducible assumption | omega | (focus (simp; done)) | (focus (simp; omega; done)) | decide)) | ((with_reducible apply wpl_indexB0); exact rfl; infer_instance; infer_instance; (first | with_reducible assumption | (with_reducible exact H32.len _) | (focus (simp; done)) | omega); (first | with_reducible assumption | omega)) | ((with_reducible apply wpl_indexB); exact rfl; exact rfl; infer_instance; infer_instance; (first | with_reducible assumption | (with_reducible exact H32.len _) | (focus (simp; done)) | omega); (first | with_reducible assumption | omega)))
      refine wpList_nil ?_
      unfold onlyN
      refine hK_.out _ _ inferInstance (fun _ => ?_)
      clear hK_ K_
      try simp only [Act.put, sA]; try simp only [sB, sC]
      refine goH (i := 7) (by kernel_rfl) rfl (fun K_ hK_ => ?_)
      rw [if_pos (by kernel_rfl)]
      refine wpr_of_list ?_
      (first | ((with_reducible apply (wpl_storeO2 ⟨oid, wh, nx + 1, now, A7, c7, vb ++ pd⟩)); exact rfl; exact rfl; (show (nx : Int) + 1 = ((nx + 1 : Nat) : Int); omega); (first | exact HBL.out | (exact HBL.out.trans (by omega))); infer_instance; (exact hil); intro wp _ hO9) | ((with_reducible apply wpl_storerow); exact rfl; exact rfl; infer_instance; infer_instance; (first | with_reducible assumption | (with_reducible exact enc_sz _ rfl) | kernel_rfl); (first | with_reducible assumption | (with_reducible exact enc_sz _ rfl) | kernel_rfl); (first | (with_reducible exact u8s_one _) | with_reducible assumption | (with_reducible exact enc_one _) | kernel_rfl); intro ws _ _) | ((with_reducible apply wpl_storecell); exact rfl; exact rfl; infer_instance; exact rfl; (first | with_reducible assumption | omega | (focus (simp; done)) | (focus (simp; omega; done)) | decide); intro ws _ _) | ((with_reducible apply (wpl_storeint (t := 3))); exact rfl; exact rfl; infer_instance; (first | with_reducible assumption | omega); intro ws _ _) | ((with_reducible apply (wpl_storebyte (t := 5))); exact rfl; exact rfl; infer_instance; (first | with_reducible assumption | omega | (focus (simp; done)) | (focus (simp; omega; done)) | decide); (constructor <;> omega); intro ws _ _))
      refine wpList_nil ?_
      unfold onlyN
      refine hK_.out _ _ inferInstance (fun _ => ?_)
      clear hK_ K_
      try simp only [Act.put]
      refine wpAnyH_done (by kernel_rfl) ?_ _
      have hC : Chg (rowOf LA) w wp := (stepC (w0 := w)).chg
      have hBz : HB wp z 38 #[.slice LA m lc, .int .i64 s.N] := inferInstance
      have h7 : HO wp 5 1 A7 (0 + nb + (n - 1)) c7 (bs ([] ++ vb ++ pd)) := inferInstance
      have h7' : HO wp 5 1 A7 (vb ++ pd).length c7 (bs (vb ++ pd)) := by rw [HBL.out]; rw [Nat.zero_add] at h7; exact h7
      have hXS := XS.setDone h hlm hi0 hr hx hC hBz hO9 h7' hN7 (hR2 A7 c7) rfl
      have hCX : Chg X w wp := hC.mono (fun x _ hk => by obtain ⟨ad, e, hk⟩ := hk; rw [← hk]; exact hi0 ad e)
      have hXw : ∀ x, X x ∨ rowOf A7 x → X x ∨ w.heap.size ≤ x := fun x hk => hk.imp (fun h => h) (fun ⟨ad, e, hk⟩ => by rw [← hk]; exact hN7.out ad e)
      go_wp2_with (first | go_skip | ((with_reducible apply wpl_alloc); intro z wz _ _ _) | ((with_reducible apply wpl_box_agg); exact rfl; intro z wz _ _ _) | ((with_reducible apply wpl_box_int); exact rfl; intro z wz _ _ _) | ((with_reducible apply wpl_box_slice); exact rfl; intro z wz _ _ _) | ((with_reducible apply wpl_box_str); exact rfl; intro z wz _ _ _) | ((with_reducible apply wpl_box_bool); exact rfl; intro z wz _ _ _) | ((with_reducible apply wpl_box_ptr); exact rfl; intro z wz _ _ _) | ((with_reducible apply (wpl_guard (op := .load _ _))); exact rfl) | ((with_reducible apply (wpl_guard (op := .fieldAddr _ _ _))); exact rfl) | ((with_reducible apply wpl_loadrow); exact rfl; infer_instance; infer_instance; (first | with_reducible assumption | (with_reducible exact enc_sz _ rfl) | kernel_rfl)) | ((with_reducible apply wpl_loadcellN); exact rfl; infer_instance; exact rfl) | ((with_reducible apply wpl_storerow); exact rfl; exact rfl; infer_instance; infer_instance; (first | with_reducible assumption | (with_reducible exact enc_sz _ rfl) | kernel_rfl); (first | with_reducible assumption | (with_reducible exact enc_sz _ rfl) | kernel_rfl); (first | (with_reducible exact u8s_one _) | with_reducible assumption | (with_reducible exact enc_one _) | kernel_rfl); intro ws _ _) | ((with_reducible apply wpl_storecell); exact rfl; exact rfl; infer_instance; exact rfl; (first | with_reducible assumption | omega | (focus (simp; done)) | (focus (simp; omega; done)) | decide); intro ws _ _))
      go_ret2
      exact ⟨none, 0, rfl, ⟨_, hXS, hCX, hXw⟩, Rd.nil _ _⟩
end Go.Proofs.Ytmeeopfdplaiaaa
