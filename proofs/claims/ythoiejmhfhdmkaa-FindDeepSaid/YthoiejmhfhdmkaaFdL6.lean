/- FindDeep. -/
import Derived.Test.YthoiejmhfhdmkaaFdL3
import Derived.Laws.BytesString
open Go Go.RowKit
namespace Go.Proofs.Ythoiejmhfhdmkaa
def strip (t : TS) : TS := ⟨t.name, 0, 0, none, 0, 0, none, 0, 0, t.L, t.D⟩
theorem gt_strip (ts : List TS) (i : Nat) : gt (ts.map strip) i = strip (gt ts i) := by
  unfold gt
  rw [List.getD_eq_getElem?_getD, List.getD_eq_getElem?_getD, List.getElem?_map]
  cases ts[i]? <;> rfl
theorem placeN_strip (ts : List TS) (nm : ByteArray) : ∀ k, placeN (ts.map strip) nm k = placeN ts nm k
  | 0 => rfl
  | k + 1 => by
    rw [placeN, placeN, placeN_strip ts nm k, gt_strip]
    rfl
theorem placeS_strip (ts : List TS) (nm : ByteArray) : placeS (ts.map strip) nm = placeS ts nm := by rw [placeS, placeS, List.length_map, placeN_strip]
theorem askS_strip (ts : List TS) (nm : ByteArray) : ∀ (r : Nat) (f : Int → Bool) (i : Nat), askS (ts.map strip) nm r f i = askS ts nm r f i
  | 0, f, i => by
    rw [askS_eq, askS_eq, gt_strip]
    rfl
  | r + 1, f, i => by
    have e : folR (ts.map strip) nm (r + 1) = folR ts nm (r + 1) := by
      funext f x
      simp only [folR, folS, placeS_strip]
      cases placeS ts x with
      | none => rfl
      | some j => simp only [askS_strip ts nm r f j]
    rw [askS_eq, askS_eq, gt_strip, e]
    rfl
theorem findS_strip (ts : List TS) (nm : ByteArray) : findS (ts.map strip) nm = findS ts nm := by rw [findS, findS, List.length_map, askS_strip]
def nmD (j : Nat) : ByteArray := ⟨#[b8 (97 + (j : Int))]⟩
def bareD (nn j : Nat) : TS := if j + 1 < nn then ⟨nmD j, 0, 0, none, 0, 0, none, 0, 0, [], [dlN (nmD (j + 1)) noS false]⟩ else ⟨nmD j, 0, 0, none, 0, 0, none, 0, 0, [tX], []⟩
theorem deep_all : ∀ n : Fin 10, 1 ≤ n.val → (findS ((List.range n.val).map (bareD n.val)) ⟨#[120]⟩).isSome = decide (n.val ≤ 4) := by decide +kernel
theorem deep_is (ts : List TS) (nn : Nat) (h1 : 1 ≤ nn) (h9 : nn ≤ 9) (h : ts.map strip = (List.range nn).map (bareD nn)) : (findS ts ⟨#[120]⟩).isSome = decide (nn ≤ 4) := by
  rw [← findS_strip, h]
  exact deep_all ⟨nn, by omega⟩ h1
def tsN (nm : ByteArray) : TS := ⟨nm, 0, 0, none, 0, 0, none, 0, 0, [], []⟩
def tsD1 (nm : ByteArray) (zd : Nat) (d : DL) : TS := ⟨nm, 0, 0, none, 0, 0, some ⟨zd, 0, none⟩, 1, 1, [], [d]⟩
theorem HTs.app {w : World} {l m : List TS} (h1 : HTs w l) (h2 : HTs w m) : HTs w (l ++ m) := ⟨fun t ht => (List.mem_append.1 ht).elim (h1.out t) (h2.out t)⟩
theorem TSWf.app {l m : List TS} (h1 : TSWf l) (h2 : TSWf m) : TSWf (l ++ m) := fun t ht => (List.mem_append.1 ht).elim (h1 t) (h2 t)
theorem OffT.app {S : Nat → Prop} {l m : List TS} (h1 : OffT S l) (h2 : OffT S m) : OffT S (l ++ m) := ⟨fun t ht => (List.mem_append.1 ht).elim (h1.out t) (h2.out t)⟩
theorem OffT.one {S : Nat → Prop} {t : TS} (h1 : OffR S t.LA (cellsOf t.L)) (h2 : OffR S t.DA (cellsOf t.D)) : OffT S [t] := ⟨fun u hu => by
  rcases List.mem_cons.1 hu with rfl | hu
  · exact ⟨h1.out, h2.out⟩
  · cases hu⟩
theorem OffT.grew {w : World} {A A' : Option Addr} {ts : List TS} (k : Grew w A A') (h : HTs w ts) (o : OffT (rowOf A) ts) : OffT (rowOf A') ts := by
  rcases k.out with e | e
  · rw [e]; exact o
  · rw [e]
    refine ⟨fun t ht => ?_⟩
    obtain ⟨h1, _, h2, _⟩ := h.out t ht
    refine ⟨fun hne ad ea ⟨ad2, e2, hk⟩ => ?_, fun hne ad ea ⟨ad2, e2, hk⟩ => ?_⟩
    · have := rd_lt h1 hne ea
      injection e2 with e2
      subst e2
      simp only at hk
      omega
    · have := rd_lt h2 hne ea
      injection e2 with e2
      subst e2
      simp only at hk
      omega
/-- one byte as a text -/
theorem wpl_convBS {P : Program} {ops : Array Oper} {rest : List Oper} {a : Act} {w : World} {Q : Exit → Act → World → Prop} {dst : Option Tmp} {ty : TypeId} {pos : String} {after : Array Edge} {src td e : TypeId} {x : Operand} {g : Nat} {b : UInt8} (hx : a.eval x = .slice (some ⟨g, 0, none⟩) 1 1) {t : TypeId} (hb : HB w g t (u8s [b]))
    (hs : P.underlying src = some (.slice e)) (he : P.underlying e = some (.int .u8)) (hd : P.underlying td = some .string)
    (h : wpList P ops Q rest (a.put dst (.string ⟨#[b]⟩)) w) : wpList P ops Q (⟨dst, .convert src td x, ty, pos, after, none⟩ :: rest) a w :=
  wpl_of_run rfl (by
    have hl : (loadCells ⟨g, 0, none⟩ 1).run P w = .ok ([(b.toNat : Int)].map (Value.int .u8)).toArray w :=
      run_loadCells_list (P := P) w ⟨g, 0, none⟩ [u8v b] (fun j v hv => by
        have hr := HR.ofBlkL hb
        obtain ⟨ad, e1, e2⟩ := hr.out j v hv
        injection e1 with e1
        subst e1
        exact e2)
    show ((convert src td (a.eval x)) >>= fun v => pure (Next.value v)).run P w = _
    rw [hx, Sem.run_bind, run_convert_bytes_string w src td e _ 1 1 hs he hd, run_bytesToString w _ 1 1 [(b.toNat : Int)] hl]
    have e3 : UInt8.ofNat ((b.toNat : Int)).toNat = b := by simp
    simp only [List.foldl_cons, List.foldl_nil, e3]
    rfl) h
section
variable {P : Program} {ops : Array Oper} {rest : List Oper} {a : Act} {w : World} {Q : Exit → Act → World → Prop} {dst : Option Tmp} {ty : TypeId} {pos : String} {after : Array Edge}
theorem wpl_putD {t : TypeId} {x y : Operand} {z zd : Nat} {s : ByteArray} {d : DL} (hx : a.eval x = .pointer (some ⟨z, 4, none⟩)) (hy : a.eval y = .slice (some ⟨zd, 0, none⟩) 1 1) {tb : TypeId} (hb : HB w z tb (RowC.enc (tsN s)).toArray) {t2 : TypeId} (_ : HB w zd t2 (cellsOf [d]).toArray) (ht : CellT P t)
    (h : ∀ w', Step (only z) w w' → HB w' z tb (RowC.enc (tsD1 s zd d)).toArray → wpList P ops Q rest (a.put dst undef) w') : wpList P ops Q (⟨dst, .store t x y, ty, pos, after, none⟩ :: rest) a w :=
  wpl_storecell hx hy hb rfl (show 4 < 5 by decide) (fun w' s hb' => h w' s hb')
theorem wpl_putL {t : TypeId} {x y : Operand} {z zl : Nat} {s : ByteArray} {g : TG} (hx : a.eval x = .pointer (some ⟨z, 3, none⟩)) (hy : a.eval y = .slice (some ⟨zl, 0, none⟩) 1 1) {tb : TypeId} (hb : HB w z tb (RowC.enc (tsN s)).toArray) {t2 : TypeId} (_ : HB w zl t2 (cellsOf [g]).toArray) (ht : CellT P t)
    (h : ∀ w', Step (only z) w w' → HB w' z tb (RowC.enc (tsL s zl g)).toArray → wpList P ops Q rest (a.put dst undef) w') : wpList P ops Q (⟨dst, .store t x y, ty, pos, after, none⟩ :: rest) a w :=
  wpl_storecell hx hy hb rfl (show 3 < 5 by decide) (fun w' s hb' => h w' s hb')
end
set_option maxRecDepth 100000 in
set_option maxHeartbeats 1600000 in
theorem findDeep_calls (n : Int) (w : World) :
    Calls Try.prog 8 #[.int .i64 n] w fun e w' => e = .returned (.bool true) ∧ Chg nowhere w w' := by
  by_cases c1 : n < 1
  · go_enter Try.func8, Try.ntmps8
    go_wp2_with (first | go_skip | ((with_reducible apply wpl_alloc); intro z wz _ _ _) | ((with_reducible apply wpl_loadrow); (exact rfl); (exact inferInstance); (exact inferInstance); (first | (with_reducible assumption) | (with_reducible exact H32.size _) | (with_reducible exact enc_sz _ rfl) | kernel_rfl)) | ((with_reducible apply wpl_loadcellN); (exact rfl); (exact inferInstance); (first | (exact rfl) | (exact tg_hw _) | (exact tg_ctr _) | (exact tg_ecu _) | (exact srch_who) | (exact srch_fd))) | ((with_reducible apply wpl_storerow); (exact rfl); (exact rfl); (exact inferInstance); (exact inferInstance); (first | (with_reducible assumption) | (with_reducible exact H32.size _) | (with_reducible exact enc_sz _ rfl) | kernel_rfl); (first | (with_reducible assumption) | (with_reducible exact H32.size _) | (with_reducible exact enc_sz _ rfl) | kernel_rfl); (first | (with_reducible exact u8s_one _) | (with_reducible assumption) | (with_reducible exact enc_one _) | kernel_rfl); intro ws _ _) | ((with_reducible apply wpl_storecell); (exact rfl); (exact rfl); (exact inferInstance); (exact rfl); (first | (with_reducible assumption) | omega | (focus (simp; done)) | (focus (simp; omega; done)) | decide); intro ws _ _))
    refine (fKnown_calls _).mono ?_
    rintro e w1 ⟨rfl, _⟩
    go_wp2_with (first | go_skip | ((with_reducible apply wpl_alloc); intro z wz _ _ _) | ((with_reducible apply wpl_loadrow); (exact rfl); (exact inferInstance); (exact inferInstance); (first | (with_reducible assumption) | (with_reducible exact H32.size _) | (with_reducible exact enc_sz _ rfl) | kernel_rfl)) | ((with_reducible apply wpl_loadcellN); (exact rfl); (exact inferInstance); (first | (exact rfl) | (exact tg_hw _) | (exact tg_ctr _) | (exact tg_ecu _) | (exact srch_who) | (exact srch_fd))) | ((with_reducible apply wpl_storerow); (exact rfl); (exact rfl); (exact inferInstance); (exact inferInstance); (first | (with_reducible assumption) | (with_reducible exact H32.size _) | (with_reducible exact enc_sz _ rfl) | kernel_rfl); (first | (with_reducible assumption) | (with_reducible exact H32.size _) | (with_reducible exact enc_sz _ rfl) | kernel_rfl); (first | (with_reducible exact u8s_one _) | (with_reducible assumption) | (with_reducible exact enc_one _) | kernel_rfl); intro ws _ _) | ((with_reducible apply wpl_storecell); (exact rfl); (exact rfl); (exact inferInstance); (exact rfl); (first | (with_reducible assumption) | omega | (focus (simp; done)) | (focus (simp; omega; done)) | decide); intro ws _ _))
    go_ret
    exact ⟨rfl, (stepN (w0 := w)).chg⟩
  by_cases c2 : 9 < n
  · go_enter Try.func8, Try.ntmps8
    go_wp2_with (first | go_skip | ((with_reducible apply wpl_alloc); intro z wz _ _ _) | ((with_reducible apply wpl_loadrow); (exact rfl); (exact inferInstance); (exact inferInstance); (first | (with_reducible assumption) | (with_reducible exact H32.size _) | (with_reducible exact enc_sz _ rfl) | kernel_rfl)) | ((with_reducible apply wpl_loadcellN); (exact rfl); (exact inferInstance); (first | (exact rfl) | (exact tg_hw _) | (exact tg_ctr _) | (exact tg_ecu _) | (exact srch_who) | (exact srch_fd))) | ((with_reducible apply wpl_storerow); (exact rfl); (exact rfl); (exact inferInstance); (exact inferInstance); (first | (with_reducible assumption) | (with_reducible exact H32.size _) | (with_reducible exact enc_sz _ rfl) | kernel_rfl); (first | (with_reducible assumption) | (with_reducible exact H32.size _) | (with_reducible exact enc_sz _ rfl) | kernel_rfl); (first | (with_reducible exact u8s_one _) | (with_reducible assumption) | (with_reducible exact enc_one _) | kernel_rfl); intro ws _ _) | ((with_reducible apply wpl_storecell); (exact rfl); (exact rfl); (exact inferInstance); (exact rfl); (first | (with_reducible assumption) | omega | (focus (simp; done)) | (focus (simp; omega; done)) | decide); intro ws _ _))
    refine (fKnown_calls _).mono ?_
    rintro e w1 ⟨rfl, _⟩
    go_wp2_with (first | go_skip | ((with_reducible apply wpl_alloc); intro z wz _ _ _) | ((with_reducible apply wpl_loadrow); (exact rfl); (exact inferInstance); (exact inferInstance); (first | (with_reducible assumption) | (with_reducible exact H32.size _) | (with_reducible exact enc_sz _ rfl) | kernel_rfl)) | ((with_reducible apply wpl_loadcellN); (exact rfl); (exact inferInstance); (first | (exact rfl) | (exact tg_hw _) | (exact tg_ctr _) | (exact tg_ecu _) | (exact srch_who) | (exact srch_fd))) | ((with_reducible apply wpl_storerow); (exact rfl); (exact rfl); (exact inferInstance); (exact inferInstance); (first | (with_reducible assumption) | (with_reducible exact H32.size _) | (with_reducible exact enc_sz _ rfl) | kernel_rfl); (first | (with_reducible assumption) | (with_reducible exact H32.size _) | (with_reducible exact enc_sz _ rfl) | kernel_rfl); (first | (with_reducible exact u8s_one _) | (with_reducible assumption) | (with_reducible exact enc_one _) | kernel_rfl); intro ws _ _) | ((with_reducible apply wpl_storecell); (exact rfl); (exact rfl); (exact inferInstance); (exact rfl); (first | (with_reducible assumption) | omega | (focus (simp; done)) | (focus (simp; omega; done)) | decide); intro ws _ _))
    go_ret
    exact ⟨rfl, (stepN (w0 := w)).chg⟩
  obtain ⟨nn, rfl⟩ : ∃ nn : Nat, n = (nn : Int) := ⟨n.toNat, by omega⟩
  have hn1 : 1 ≤ nn := by omega
  have hn9 : nn ≤ 9 := by omega
  have kbN : ∀ s w, (Instr.build 46 #[(0, .string s)]).run Try.prog w = .ok (.agg (RowC.enc (tsN s)).toArray) w := fun _ _ => by kernel_rfl
  have kbD : ∀ s w, (Instr.build 49 #[(0, .string s)]).run Try.prog w = .ok (.agg (RowC.enc (dlN s noS false)).toArray) w := fun _ _ => by kernel_rfl
  have kbT : ∀ w, (Instr.build 37 #[(0, .string ⟨#[120]⟩), (3, .string ⟨#[104]⟩)]).run Try.prog w = .ok (.agg (RowC.enc tX).toArray) w := fun _ => by kernel_rfl
  have ksD : ∀ d w, (Instr.buildSlice 44 1 #[(0, .agg (RowC.enc (dlN d noS false)).toArray)]).run Try.prog w = .ok (.slice (some ⟨w.heap.size, 0, none⟩) 1 1) (w.alloc (.cells (cellsOf [dlN d noS false]).toArray 49)) := fun _ _ => by kernel_rfl
  have ksL : ∀ w, (Instr.buildSlice 43 1 #[(0, .agg (RowC.enc tX).toArray)]).run Try.prog w = .ok (.slice (some ⟨w.heap.size, 0, none⟩) 1 1) (w.alloc (.cells (cellsOf [tX]).toArray 37)) := fun _ => by kernel_rfl
  have ks1 : ∀ s z d w, (Instr.buildSlice 34 1 #[(0, .agg (RowC.enc (tsD1 s z d)).toArray)]).run Try.prog w = .ok (.slice (some ⟨w.heap.size, 0, none⟩) 1 1) (w.alloc (.cells (cellsOf [tsD1 s z d]).toArray 46)) := fun _ _ _ _ => by kernel_rfl
  have ks2 : ∀ s z g w, (Instr.buildSlice 34 1 #[(0, .agg (RowC.enc (tsL s z g)).toArray)]).run Try.prog w = .ok (.slice (some ⟨w.heap.size, 0, none⟩) 1 1) (w.alloc (.cells (cellsOf [tsL s z g]).toArray 46)) := fun _ _ _ _ => by kernel_rfl
  go_enter Try.func8, Try.ntmps8
  go_wp2_with (first | go_skip | ((with_reducible apply wpl_alloc); intro z wz _ _ _) | ((with_reducible apply wpl_loadrow); (exact rfl); (exact inferInstance); (exact inferInstance); (first | (with_reducible assumption) | (with_reducible exact H32.size _) | (with_reducible exact enc_sz _ rfl) | kernel_rfl)) | ((with_reducible apply wpl_loadcellN); (exact rfl); (exact inferInstance); (first | (exact rfl) | (exact tg_hw _) | (exact tg_ctr _) | (exact tg_ecu _) | (exact srch_who) | (exact srch_fd))) | ((with_reducible apply wpl_storerow); (exact rfl); (exact rfl); (exact inferInstance); (exact inferInstance); (first | (with_reducible assumption) | (with_reducible exact H32.size _) | (with_reducible exact enc_sz _ rfl) | kernel_rfl); (first | (with_reducible assumption) | (with_reducible exact H32.size _) | (with_reducible exact enc_sz _ rfl) | kernel_rfl); (first | (with_reducible exact u8s_one _) | (with_reducible assumption) | (with_reducible exact enc_one _) | kernel_rfl); intro ws _ _) | ((with_reducible apply wpl_storecell); (exact rfl); (exact rfl); (exact inferInstance); (exact rfl); (first | (with_reducible assumption) | omega | (focus (simp; done)) | (focus (simp; omega; done)) | decide); intro ws _ _))
  go_loopw [3, 4] (fun lv iv wr => ∃ (k : Nat) (A' : Option Addr) (c' : Nat) (ts : List TS), k ≤ nn ∧ iv = .int .i64 (k : Int) ∧ lv = .slice A' k c' ∧ Step nowhere w wr ∧ HO wr 46 5 A' k c' (cellsOf ts) ∧ NewA w A' ∧ HTs wr ts ∧ OffT (rowOf A') ts ∧ Hid (TSWf ts) ∧ Hid (ts.length = k) ∧ Hid (ts.map strip = (List.range k).map (bareD nn))) (fun _ iv _ => nn - (intOf iv).toNat)
  case atStart => exact ⟨0, none, 0, [], Nat.zero_le _, rfl, rfl, stepN, ⟨Own.nil _ _ _⟩, NewA.of_none _, HTs.nil' _, ⟨fun t ht => by cases ht⟩, Lib.hid TSWf.nil', Lib.hid rfl, Lib.hid rfl⟩
  case round =>
    obtain ⟨k, A', c', ts, hk, rfl, rfl, _, _, hNA, _, hOT, HWF, HLN, HST⟩ := hrel
    by_cases hlt : k < nn
    · have hltI : (k : Int) < nn := by omega
      have kb1 : ∀ w, (Instr.buildSlice 50 1 #[(0, .int .u8 (97 + (k : Int)))]).run Try.prog w = .ok (.slice (some ⟨w.heap.size, 0, none⟩) 1 1) (w.alloc (.cells (u8s [b8 (97 + (k : Int))]) 5)) := fun _ => by rw [b8_in (n := 97 + (k : Int)) (by omega) (by omega), b8_self]; kernel_rfl
      have kb2 : ∀ w, (Instr.buildSlice 50 1 #[(0, .int .u8 (97 + (k : Int) + 1))]).run Try.prog w = .ok (.slice (some ⟨w.heap.size, 0, none⟩) 1 1) (w.alloc (.cells (u8s [b8 (97 + (k : Int) + 1)]) 5)) := fun _ => by rw [b8_in (n := 97 + (k : Int) + 1) (by omega) (by omega), b8_self]; kernel_rfl
      have hn2 : (⟨#[b8 (97 + (k : Int) + 1)]⟩ : ByteArray) = nmD (k + 1) := by rw [nmD, show (97 : Int) + (k : Int) + 1 = 97 + ((k + 1 : Nat) : Int) by omega]
      have HN2 := Lib.hid hn2
      clear hn2
      by_cases hlast : k + 1 < nn
      · have hlastI : (k : Int) + 1 < nn := by omega
        go_wp2_with (first | go_skip | ((with_reducible apply (stop_dst (dst := some 24))); (try simp only [Act.put, List.setIfInBounds_toArray, List.set_cons_succ, List.set_cons_zero]); ((with_reducible apply (wpl_bslice (dst := some 24))); (exact kb1 _); intro zc wb _ _ _)) | ((with_reducible apply (stop_dst (dst := some 35))); (try simp only [Act.put, List.setIfInBounds_toArray, List.set_cons_succ, List.set_cons_zero]); ((with_reducible apply (wpl_bslice (dst := some 35))); (exact kb2 _); intro zc2 wb _ _ _)) | ((with_reducible apply wpl_convBS); (exact rfl); (exact inferInstance); (exact Try.underlying50); (exact Try.underlying5); (exact Try.underlying9)) | ((with_reducible apply (stop_dst (dst := some 26))); (try simp only [Act.put, List.setIfInBounds_toArray, List.set_cons_succ, List.set_cons_zero]); ((with_reducible apply (wpl_build (dst := some 26))); (exact kbN _ _))) | ((with_reducible apply (stop_dst (dst := some 37))); (try simp only [Act.put, List.setIfInBounds_toArray, List.set_cons_succ, List.set_cons_zero]); ((with_reducible apply (wpl_build (dst := some 37))); (exact kbD _ _))) | ((with_reducible apply (stop_dst (dst := some 38))); (try simp only [Act.put, List.setIfInBounds_toArray, List.set_cons_succ, List.set_cons_zero]); ((with_reducible apply (wpl_bslice (dst := some 38))); (exact ksD _ _); intro zd wb _ _ _)) | ((with_reducible apply (wpl_putD (t := 44))); (exact rfl); (exact rfl); (exact inferInstance); (exact inferInstance); (exact inferInstance); intro ws _ _) | ((with_reducible apply (stop_dst (dst := some 45))); (try simp only [Act.put, List.setIfInBounds_toArray, List.set_cons_succ, List.set_cons_zero]); ((with_reducible apply (wpl_bslice (dst := some 45))); (exact ks1 _ _ _ _); intro zb wb _ _ _)) | ((with_reducible apply (wpl_appendR (α := TS))); (exact rfl); (exact rfl); (exact inferInstance); (exact inferInstance); (exact inferInstance); (exact rfl); (focus (simp; done)); (first | (with_reducible assumption) | omega); (decide); (decide); intro A2 c2 wa _ _ _ hcap) | ((with_reducible apply (wpl_alloc (dst := some 5))); intro z5 wz5 _ _ _) | ((with_reducible apply wpl_alloc); intro z wz _ _ _) | ((with_reducible apply wpl_loadrow); (exact rfl); (exact inferInstance); (exact inferInstance); (first | (with_reducible assumption) | (with_reducible exact H32.size _) | (with_reducible exact enc_sz _ rfl) | kernel_rfl)) | ((with_reducible apply wpl_loadcellN); (exact rfl); (exact inferInstance); (first | (exact rfl) | (exact tg_hw _) | (exact tg_ctr _) | (exact tg_ecu _) | (exact srch_who) | (exact srch_fd))) | ((with_reducible apply wpl_storerow); (exact rfl); (exact rfl); (exact inferInstance); (exact inferInstance); (first | (with_reducible assumption) | (with_reducible exact H32.size _) | (with_reducible exact enc_sz _ rfl) | kernel_rfl); (first | (with_reducible assumption) | (with_reducible exact H32.size _) | (with_reducible exact enc_sz _ rfl) | kernel_rfl); (first | (with_reducible exact u8s_one _) | (with_reducible assumption) | (with_reducible exact enc_one _) | kernel_rfl); intro ws _ _) | ((with_reducible apply wpl_storecell); (exact rfl); (exact rfl); (exact inferInstance); (exact rfl); (first | (with_reducible assumption) | omega | (focus (simp; done)) | (focus (simp; omega; done)) | decide); intro ws _ _))
        rw [HN2.out] at *
        have hT0 : HTs wb [tsD1 (nmD k) zd (dlN (nmD (k + 1)) noS false)] := HTs.cons' (t := tsD1 (nmD k) zd (dlN (nmD (k + 1)) noS false)) (HR.nilE _) rfl (inferInstance : HR wb (some ⟨zd, 0, none⟩) (cellsOf [dlN (nmD (k + 1)) noS false])) rfl (HTs.nil' _)
        have hT1 : HTs wb (ts ++ [tsD1 (nmD k) zd (dlN (nmD (k + 1)) noS false)]) := HTs.app inferInstance hT0
        have hB1 : OffB (rowOf A') zd := inferInstance
        have hO1 : OffT (rowOf A') (ts ++ [tsD1 (nmD k) zd (dlN (nmD (k + 1)) noS false)]) := OffT.app hOT (OffT.one ⟨fun h => absurd rfl h⟩ ⟨fun _ ad e hk => hB1.out (by injection e with e; subst e; exact hk)⟩)
        have hO2 : OffT (rowOf A2) (ts ++ [tsD1 (nmD k) zd (dlN (nmD (k + 1)) noS false)]) := OffT.grew (w := wb) inferInstance hT1 hO1
        refine ⟨⟨k + 1, A2, c2, ts ++ [tsD1 (nmD k) zd (dlN (nmD (k + 1)) noS false)], by omega, by go_num, rfl, stepN, inferInstance, inferInstance, inferInstance, hO2, Lib.hid (TSWf.app HWF.out (TSWf.cons' (show 0 ≤ _ by decide) (show 1 ≤ _ by decide) (show 1 ≤ _ by decide) (fun d hd => by rcases List.mem_cons.1 hd with rfl | hd; exact (show 1 ≤ _ by decide); cases hd) TSWf.nil')), Lib.hid (by rw [List.length_append, HLN.out]; rfl), Lib.hid ?_⟩, by simp [intOf]; omega⟩
        rw [List.map_append, HST.out, List.range_succ, List.map_append, List.map_singleton, List.map_singleton, bareD, if_pos hlast]
        rfl
      · have hlastI : ¬ (k : Int) + 1 < nn := by omega
        go_wp2_with (first | go_skip | ((with_reducible apply (stop_dst (dst := some 24))); (try simp only [Act.put, List.setIfInBounds_toArray, List.set_cons_succ, List.set_cons_zero]); ((with_reducible apply (wpl_bslice (dst := some 24))); (exact kb1 _); intro zc wb _ _ _)) | ((with_reducible apply wpl_convBS); (exact rfl); (exact inferInstance); (exact Try.underlying50); (exact Try.underlying5); (exact Try.underlying9)) | ((with_reducible apply (stop_dst (dst := some 26))); (try simp only [Act.put, List.setIfInBounds_toArray, List.set_cons_succ, List.set_cons_zero]); ((with_reducible apply (wpl_build (dst := some 26))); (exact kbN _ _))) | ((with_reducible apply (stop_dst (dst := some 40))); (try simp only [Act.put, List.setIfInBounds_toArray, List.set_cons_succ, List.set_cons_zero]); ((with_reducible apply (wpl_build (dst := some 40))); (exact kbT _))) | ((with_reducible apply (stop_dst (dst := some 41))); (try simp only [Act.put, List.setIfInBounds_toArray, List.set_cons_succ, List.set_cons_zero]); ((with_reducible apply (wpl_bslice (dst := some 41))); (exact ksL _); intro zl wb _ _ _)) | ((with_reducible apply (wpl_putL (t := 43))); (exact rfl); (exact rfl); (exact inferInstance); (exact inferInstance); (exact inferInstance); intro ws _ _) | ((with_reducible apply (stop_dst (dst := some 45))); (try simp only [Act.put, List.setIfInBounds_toArray, List.set_cons_succ, List.set_cons_zero]); ((with_reducible apply (wpl_bslice (dst := some 45))); (exact ks2 _ _ _ _); intro zb wb _ _ _)) | ((with_reducible apply (wpl_appendR (α := TS))); (exact rfl); (exact rfl); (exact inferInstance); (exact inferInstance); (exact inferInstance); (exact rfl); (focus (simp; done)); (first | (with_reducible assumption) | omega); (decide); (decide); intro A2 c2 wa _ _ _ hcap) | ((with_reducible apply (wpl_alloc (dst := some 5))); intro z5 wz5 _ _ _) | ((with_reducible apply wpl_alloc); intro z wz _ _ _) | ((with_reducible apply wpl_loadrow); (exact rfl); (exact inferInstance); (exact inferInstance); (first | (with_reducible assumption) | (with_reducible exact H32.size _) | (with_reducible exact enc_sz _ rfl) | kernel_rfl)) | ((with_reducible apply wpl_loadcellN); (exact rfl); (exact inferInstance); (first | (exact rfl) | (exact tg_hw _) | (exact tg_ctr _) | (exact tg_ecu _) | (exact srch_who) | (exact srch_fd))) | ((with_reducible apply wpl_storerow); (exact rfl); (exact rfl); (exact inferInstance); (exact inferInstance); (first | (with_reducible assumption) | (with_reducible exact H32.size _) | (with_reducible exact enc_sz _ rfl) | kernel_rfl); (first | (with_reducible assumption) | (with_reducible exact H32.size _) | (with_reducible exact enc_sz _ rfl) | kernel_rfl); (first | (with_reducible exact u8s_one _) | (with_reducible assumption) | (with_reducible exact enc_one _) | kernel_rfl); intro ws _ _) | ((with_reducible apply wpl_storecell); (exact rfl); (exact rfl); (exact inferInstance); (exact rfl); (first | (with_reducible assumption) | omega | (focus (simp; done)) | (focus (simp; omega; done)) | decide); intro ws _ _))
        have hT0 : HTs wb [tsL (nmD k) zl tX] := HTs.cons' (t := tsL (nmD k) zl tX) (inferInstance : HR wb (some ⟨zl, 0, none⟩) (cellsOf [tX])) rfl (HR.nilE _) rfl (HTs.nil' _)
        have hT1 : HTs wb (ts ++ [tsL (nmD k) zl tX]) := HTs.app inferInstance hT0
        have hB1 : OffB (rowOf A') zl := inferInstance
        have hO1 : OffT (rowOf A') (ts ++ [tsL (nmD k) zl tX]) := OffT.app hOT (OffT.one ⟨fun _ ad e hk => hB1.out (by injection e with e; subst e; exact hk)⟩ ⟨fun h => absurd rfl h⟩)
        have hO2 : OffT (rowOf A2) (ts ++ [tsL (nmD k) zl tX]) := OffT.grew (w := wb) inferInstance hT1 hO1
        refine ⟨⟨k + 1, A2, c2, ts ++ [tsL (nmD k) zl tX], by omega, by go_num, rfl, stepN, inferInstance, inferInstance, inferInstance, hO2, Lib.hid (TSWf.app HWF.out (TSWf.cons' (show 1 ≤ _ by decide) (show 0 ≤ _ by decide) (show 1 ≤ _ by decide) (fun d hd => by cases hd) TSWf.nil')), Lib.hid (by rw [List.length_append, HLN.out]; rfl), Lib.hid ?_⟩, by simp [intOf]; omega⟩
        rw [List.map_append, HST.out, List.range_succ, List.map_append, List.map_singleton, List.map_singleton, bareD, if_neg hlast]
        rfl
    · have hltI : ¬ (k : Int) < nn := by omega
      obtain rfl : k = nn := by omega
      obtain ⟨o, ho⟩ : ∃ o, findS ts ⟨#[120]⟩ = o := ⟨_, rfl⟩
      have hd := deep_is ts k hn1 hn9 HST.out
      rw [ho] at hd
      have HO := Lib.hid ho
      have HD := Lib.hid hd
      clear ho hd
      by_cases h4 : k ≤ 4
      · have h4I : (k : Int) ≤ 4 := by omega
        have hS : Hid (o.isSome = true) := Lib.hid (by rw [HD.out, decide_eq_true h4])
        go_wp2_with (first | go_skip | ((with_reducible apply wpl_alloc); intro z wz _ _ _) | ((with_reducible apply wpl_loadrow); (exact rfl); (exact inferInstance); (exact inferInstance); (first | (with_reducible assumption) | (with_reducible exact H32.size _) | (with_reducible exact enc_sz _ rfl) | kernel_rfl)) | ((with_reducible apply wpl_loadcellN); (exact rfl); (exact inferInstance); (first | (exact rfl) | (exact tg_hw _) | (exact tg_ctr _) | (exact tg_ecu _) | (exact srch_who) | (exact srch_fd))) | ((with_reducible apply wpl_storerow); (exact rfl); (exact rfl); (exact inferInstance); (exact inferInstance); (first | (with_reducible assumption) | (with_reducible exact H32.size _) | (with_reducible exact enc_sz _ rfl) | kernel_rfl); (first | (with_reducible assumption) | (with_reducible exact H32.size _) | (with_reducible exact enc_sz _ rfl) | kernel_rfl); (first | (with_reducible exact u8s_one _) | (with_reducible assumption) | (with_reducible exact enc_one _) | kernel_rfl); intro ws _ _) | ((with_reducible apply wpl_storecell); (exact rfl); (exact rfl); (exact inferInstance); (exact rfl); (first | (with_reducible assumption) | omega | (focus (simp; done)) | (focus (simp; omega; done)) | decide); intro ws _ _))
        refine (find_known ⟨#[120]⟩ inferInstance inferInstance HLN.out (by omega) HWF.out HO.out).mono ?_
        rw [hS.out]
        rintro e w2 ⟨rfl, _⟩
        go_wp2_with (first | go_skip | ((with_reducible apply (wpl_alloc (dst := some 6))); intro z6 wz6 _ _ _) | ((with_reducible apply wpl_alloc); intro z wz _ _ _) | ((with_reducible apply wpl_loadrow); (exact rfl); (exact inferInstance); (exact inferInstance); (first | (with_reducible assumption) | (with_reducible exact H32.size _) | (with_reducible exact enc_sz _ rfl) | kernel_rfl)) | ((with_reducible apply wpl_loadcellN); (exact rfl); (exact inferInstance); (first | (exact rfl) | (exact tg_hw _) | (exact tg_ctr _) | (exact tg_ecu _) | (exact srch_who) | (exact srch_fd))) | ((with_reducible apply wpl_storerow); (exact rfl); (exact rfl); (exact inferInstance); (exact inferInstance); (first | (with_reducible assumption) | (with_reducible exact H32.size _) | (with_reducible exact enc_sz _ rfl) | kernel_rfl); (first | (with_reducible assumption) | (with_reducible exact H32.size _) | (with_reducible exact enc_sz _ rfl) | kernel_rfl); (first | (with_reducible exact u8s_one _) | (with_reducible assumption) | (with_reducible exact enc_one _) | kernel_rfl); intro ws _ _) | ((with_reducible apply wpl_storecell); (exact rfl); (exact rfl); (exact inferInstance); (exact rfl); (first | (with_reducible assumption) | omega | (focus (simp; done)) | (focus (simp; omega; done)) | decide); intro ws _ _))
        refine (fKnown_calls _).mono ?_
        rintro e w3 ⟨rfl, _⟩
        go_wp2_with (first | go_skip | ((with_reducible apply wpl_alloc); intro z wz _ _ _) | ((with_reducible apply wpl_loadrow); (exact rfl); (exact inferInstance); (exact inferInstance); (first | (with_reducible assumption) | (with_reducible exact H32.size _) | (with_reducible exact enc_sz _ rfl) | kernel_rfl)) | ((with_reducible apply wpl_loadcellN); (exact rfl); (exact inferInstance); (first | (exact rfl) | (exact tg_hw _) | (exact tg_ctr _) | (exact tg_ecu _) | (exact srch_who) | (exact srch_fd))) | ((with_reducible apply wpl_storerow); (exact rfl); (exact rfl); (exact inferInstance); (exact inferInstance); (first | (with_reducible assumption) | (with_reducible exact H32.size _) | (with_reducible exact enc_sz _ rfl) | kernel_rfl); (first | (with_reducible assumption) | (with_reducible exact H32.size _) | (with_reducible exact enc_sz _ rfl) | kernel_rfl); (first | (with_reducible exact u8s_one _) | (with_reducible assumption) | (with_reducible exact enc_one _) | kernel_rfl); intro ws _ _) | ((with_reducible apply wpl_storecell); (exact rfl); (exact rfl); (exact inferInstance); (exact rfl); (first | (with_reducible assumption) | omega | (focus (simp; done)) | (focus (simp; omega; done)) | decide); intro ws _ _))
        go_ret
        exact ⟨rfl, (stepN (w0 := w)).chg⟩
      · have h4I : ¬ (k : Int) ≤ 4 := by omega
        have hdc : decide ((k : Int) ≤ 4) = false := decide_eq_false h4I
        have h4J : (4 : Int) < k := by omega
        have hS : Hid (o.isSome = false) := Lib.hid (by rw [HD.out, decide_eq_false h4])
        go_wp2_with (first | go_skip | ((with_reducible apply wpl_alloc); intro z wz _ _ _) | ((with_reducible apply wpl_loadrow); (exact rfl); (exact inferInstance); (exact inferInstance); (first | (with_reducible assumption) | (with_reducible exact H32.size _) | (with_reducible exact enc_sz _ rfl) | kernel_rfl)) | ((with_reducible apply wpl_loadcellN); (exact rfl); (exact inferInstance); (first | (exact rfl) | (exact tg_hw _) | (exact tg_ctr _) | (exact tg_ecu _) | (exact srch_who) | (exact srch_fd))) | ((with_reducible apply wpl_storerow); (exact rfl); (exact rfl); (exact inferInstance); (exact inferInstance); (first | (with_reducible assumption) | (with_reducible exact H32.size _) | (with_reducible exact enc_sz _ rfl) | kernel_rfl); (first | (with_reducible assumption) | (with_reducible exact H32.size _) | (with_reducible exact enc_sz _ rfl) | kernel_rfl); (first | (with_reducible exact u8s_one _) | (with_reducible assumption) | (with_reducible exact enc_one _) | kernel_rfl); intro ws _ _) | ((with_reducible apply wpl_storecell); (exact rfl); (exact rfl); (exact inferInstance); (exact rfl); (first | (with_reducible assumption) | omega | (focus (simp; done)) | (focus (simp; omega; done)) | decide); intro ws _ _))
        refine (find_known ⟨#[120]⟩ inferInstance inferInstance HLN.out (by omega) HWF.out HO.out).mono ?_
        rw [hS.out]
        rintro e w2 ⟨rfl, _⟩
        go_wp2_with (first | go_skip | ((with_reducible apply (wpl_alloc (dst := some 6))); intro z6 wz6 _ _ _) | ((with_reducible apply wpl_alloc); intro z wz _ _ _) | ((with_reducible apply wpl_loadrow); (exact rfl); (exact inferInstance); (exact inferInstance); (first | (with_reducible assumption) | (with_reducible exact H32.size _) | (with_reducible exact enc_sz _ rfl) | kernel_rfl)) | ((with_reducible apply wpl_loadcellN); (exact rfl); (exact inferInstance); (first | (exact rfl) | (exact tg_hw _) | (exact tg_ctr _) | (exact tg_ecu _) | (exact srch_who) | (exact srch_fd))) | ((with_reducible apply wpl_storerow); (exact rfl); (exact rfl); (exact inferInstance); (exact inferInstance); (first | (with_reducible assumption) | (with_reducible exact H32.size _) | (with_reducible exact enc_sz _ rfl) | kernel_rfl); (first | (with_reducible assumption) | (with_reducible exact H32.size _) | (with_reducible exact enc_sz _ rfl) | kernel_rfl); (first | (with_reducible exact u8s_one _) | (with_reducible assumption) | (with_reducible exact enc_one _) | kernel_rfl); intro ws _ _) | ((with_reducible apply wpl_storecell); (exact rfl); (exact rfl); (exact inferInstance); (exact rfl); (first | (with_reducible assumption) | omega | (focus (simp; done)) | (focus (simp; omega; done)) | decide); intro ws _ _))
        refine (fKnown_calls _).mono ?_
        rintro e w3 ⟨rfl, _⟩
        go_wp2_with (first | go_skip | ((with_reducible apply wpl_alloc); intro z wz _ _ _) | ((with_reducible apply wpl_loadrow); (exact rfl); (exact inferInstance); (exact inferInstance); (first | (with_reducible assumption) | (with_reducible exact H32.size _) | (with_reducible exact enc_sz _ rfl) | kernel_rfl)) | ((with_reducible apply wpl_loadcellN); (exact rfl); (exact inferInstance); (first | (exact rfl) | (exact tg_hw _) | (exact tg_ctr _) | (exact tg_ecu _) | (exact srch_who) | (exact srch_fd))) | ((with_reducible apply wpl_storerow); (exact rfl); (exact rfl); (exact inferInstance); (exact inferInstance); (first | (with_reducible assumption) | (with_reducible exact H32.size _) | (with_reducible exact enc_sz _ rfl) | kernel_rfl); (first | (with_reducible assumption) | (with_reducible exact H32.size _) | (with_reducible exact enc_sz _ rfl) | kernel_rfl); (first | (with_reducible exact u8s_one _) | (with_reducible assumption) | (with_reducible exact enc_one _) | kernel_rfl); intro ws _ _) | ((with_reducible apply wpl_storecell); (exact rfl); (exact rfl); (exact inferInstance); (exact rfl); (first | (with_reducible assumption) | omega | (focus (simp; done)) | (focus (simp; omega; done)) | decide); intro ws _ _))
        go_ret
        exact ⟨rfl, (stepN (w0 := w)).chg⟩
end Go.Proofs.Ythoiejmhfhdmkaa
