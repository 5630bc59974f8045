/- BkL -/
import Derived.Test.YtegdihpnefoolaaTiBkK
import Derived.Test.YtegdihpnefoolaaTiSlY
open Go Go.RowKit
namespace Go.Proofs.Ytegdihpnefoolaa
section
variable {P : Program} {ops : Array Oper} {rest : List Oper} {a : Act} {w : World} {Q : Exit → Act → World → Prop}
theorem wpl_litB {t e : TypeId} {len : Nat} {ps : List (Nat × Operand)} {cs : Array Value} {d1 d2 : Option Tmp} {ty1 ty2 : TypeId} {pos1 pos2 : String} {af1 af2 : Array Edge} {x : Operand} {g2 : Nat × Bool}
    (hr : (Instr.buildSlice t len (ps.map fun (i, x) => (i, a.eval x)).toArray).run P w = .ok (.slice (some ⟨w.heap.size, 0, none⟩) len len) (w.alloc (.cells cs e)))
    (hx : ∀ v, (a.put d1 v).eval x = v) (ht : P.underlying t = some (.slice e)) (he : P.underlying e = some (.int .u8))
    (hw : ∀ v, Region.wanted ⟨d2, .convert t t x, ty2, pos2, af2, some g2⟩ (yielded ops (a.put d1 v).tmps) = true)
    (h : ∀ g w', Born w g → Step nowhere w w' → HR w' (some ⟨g, 0, none⟩) cs.toList → wpList P ops Q rest ((a.put d1 (.slice (some ⟨g, 0, none⟩) len len)).put d2 (.slice (some ⟨g, 0, none⟩) len len)) w') :
    wpList P ops Q (⟨d1, .buildSlice t len ps.toArray, ty1, pos1, af1, none⟩ :: ⟨d2, .convert t t x, ty2, pos2, af2, some g2⟩ :: rest) a w :=
  wpl_of_run rfl (by
    show ((Instr.buildSlice t len (ps.toArray.map fun (i, x) => (i, a.eval x))) >>= fun v => pure (Next.value v)).run P w = _
    rw [Sem.run_bind, List.map_toArray, hr]
    rfl) (wpl_guard (hw _) (wpl_of_run rfl (by
    show ((convert t t ((a.put d1 (.slice (some ⟨w.heap.size, 0, none⟩) len len)).eval x)) >>= fun v => pure (Next.value v)).run P (w.alloc (.cells cs e)) = _
    rw [hx, Sem.run_bind, Lib.run_convert_bytes_const w t e cs len len ht he]
    rfl) (h w.heap.size _ ⟨rfl⟩ ⟨(Chg.refl _ _).alloc _⟩ (hr_marked w cs e _))))
end
theorem eqlHB (a b : H32) (w : World) : (binOp .eql 52 (.agg (u8s a.l)) (.agg (u8s b.l))).run Try.prog w = .ok (.bool (decide (a = b))) w := by
  rw [← beq_hashB]
  exact run_eql_bytes (P := Try.prog) w 52 5 32 Try.underlying52 Try.underlying5 Try.sizeOf5 a.l b.l a.len b.len
set_option maxRecDepth 100000 in
set_option maxHeartbeats 3200000 in
theorem bankOld_calls {A : Option Addr} {n c : Nat} {img : List UInt8} (x y : Int) {w : World} [hA : HR w A (bs img)] (hl : img.length = n) (hc : n ≤ c) (hn9 : n ≤ 9223372036854775807) :
    Calls Try.prog 6 #[.int .i64 x, .int .i64 y, .slice A n c] w fun e w' => e = .returned (.bool true) ∧ Chg nowhere w w' := by
  have HL := Lib.hid hl
  have HA0 := Lib.hid hA.out
  have kbf := run_byte1 102
  have kbm := run_byte1 109
  have hnone : ∀ w, HR w none (bs []) := fun w => ⟨Rd.nil _ _⟩
  have hs0 := bkL_len 0 0 zeroH 0 ⟨#[]⟩ none 0 0
  clear hl
  by_cases c1 : x < 0
  · go_enter Try.func6, Try.ntmps6
    go_wp2_with (first | go_skip | ((with_reducible apply wpl_alloc); intro z wz _ _ _) | ((with_reducible apply (wpl_guard (op := .load _ _))); (exact rfl)) | ((with_reducible apply (wpl_guard (op := .buildSlice _ _ _))); (exact rfl)) | ((with_reducible apply (wpl_guard (op := .fieldAddr _ _ _))); (exact rfl)) | ((with_reducible apply (wpl_guard (op := .convert _ _ _))); (exact rfl)) | ((with_reducible apply wpl_loadrow); (exact rfl); infer_instance; infer_instance; (first | (with_reducible assumption) | (with_reducible exact H32.size _) | kernel_rfl)) | ((with_reducible apply wpl_loadcellN); (exact rfl); infer_instance; (exact rfl)) | ((with_reducible apply wpl_storerow); (exact rfl); (exact rfl); infer_instance; infer_instance; (first | (with_reducible assumption) | (with_reducible exact H32.size _) | kernel_rfl); (first | (with_reducible assumption) | (with_reducible exact H32.size _) | kernel_rfl); (first | (with_reducible exact u8s_one _) | (with_reducible assumption) | kernel_rfl); intro ws _ _) | ((with_reducible apply wpl_storecell); (exact rfl); (exact rfl); infer_instance; (exact rfl); (first | (with_reducible assumption) | omega | (focus (simp; done)) | (focus (simp; omega; done)) | decide); intro ws _ _))
    go_ret
    exact ⟨rfl, (stepN (w0 := w)).chg⟩
  by_cases c2 : 1073741824 < x
  · go_enter Try.func6, Try.ntmps6
    go_wp2_with (first | go_skip | ((with_reducible apply wpl_alloc); intro z wz _ _ _) | ((with_reducible apply (wpl_guard (op := .load _ _))); (exact rfl)) | ((with_reducible apply (wpl_guard (op := .buildSlice _ _ _))); (exact rfl)) | ((with_reducible apply (wpl_guard (op := .fieldAddr _ _ _))); (exact rfl)) | ((with_reducible apply (wpl_guard (op := .convert _ _ _))); (exact rfl)) | ((with_reducible apply wpl_loadrow); (exact rfl); infer_instance; infer_instance; (first | (with_reducible assumption) | (with_reducible exact H32.size _) | kernel_rfl)) | ((with_reducible apply wpl_loadcellN); (exact rfl); infer_instance; (exact rfl)) | ((with_reducible apply wpl_storerow); (exact rfl); (exact rfl); infer_instance; infer_instance; (first | (with_reducible assumption) | (with_reducible exact H32.size _) | kernel_rfl); (first | (with_reducible assumption) | (with_reducible exact H32.size _) | kernel_rfl); (first | (with_reducible exact u8s_one _) | (with_reducible assumption) | kernel_rfl); intro ws _ _) | ((with_reducible apply wpl_storecell); (exact rfl); (exact rfl); infer_instance; (exact rfl); (first | (with_reducible assumption) | omega | (focus (simp; done)) | (focus (simp; omega; done)) | decide); intro ws _ _))
    go_ret
    exact ⟨rfl, (stepN (w0 := w)).chg⟩
  by_cases c3 : y < 0
  · go_enter Try.func6, Try.ntmps6
    go_wp2_with (first | go_skip | ((with_reducible apply wpl_alloc); intro z wz _ _ _) | ((with_reducible apply (wpl_guard (op := .load _ _))); (exact rfl)) | ((with_reducible apply (wpl_guard (op := .buildSlice _ _ _))); (exact rfl)) | ((with_reducible apply (wpl_guard (op := .fieldAddr _ _ _))); (exact rfl)) | ((with_reducible apply (wpl_guard (op := .convert _ _ _))); (exact rfl)) | ((with_reducible apply wpl_loadrow); (exact rfl); infer_instance; infer_instance; (first | (with_reducible assumption) | (with_reducible exact H32.size _) | kernel_rfl)) | ((with_reducible apply wpl_loadcellN); (exact rfl); infer_instance; (exact rfl)) | ((with_reducible apply wpl_storerow); (exact rfl); (exact rfl); infer_instance; infer_instance; (first | (with_reducible assumption) | (with_reducible exact H32.size _) | kernel_rfl); (first | (with_reducible assumption) | (with_reducible exact H32.size _) | kernel_rfl); (first | (with_reducible exact u8s_one _) | (with_reducible assumption) | kernel_rfl); intro ws _ _) | ((with_reducible apply wpl_storecell); (exact rfl); (exact rfl); infer_instance; (exact rfl); (first | (with_reducible assumption) | omega | (focus (simp; done)) | (focus (simp; omega; done)) | decide); intro ws _ _))
    go_ret
    exact ⟨rfl, (stepN (w0 := w)).chg⟩
  by_cases c4 : 1073741824 < y
  · go_enter Try.func6, Try.ntmps6
    go_wp2_with (first | go_skip | ((with_reducible apply wpl_alloc); intro z wz _ _ _) | ((with_reducible apply (wpl_guard (op := .load _ _))); (exact rfl)) | ((with_reducible apply (wpl_guard (op := .buildSlice _ _ _))); (exact rfl)) | ((with_reducible apply (wpl_guard (op := .fieldAddr _ _ _))); (exact rfl)) | ((with_reducible apply (wpl_guard (op := .convert _ _ _))); (exact rfl)) | ((with_reducible apply wpl_loadrow); (exact rfl); infer_instance; infer_instance; (first | (with_reducible assumption) | (with_reducible exact H32.size _) | kernel_rfl)) | ((with_reducible apply wpl_loadcellN); (exact rfl); infer_instance; (exact rfl)) | ((with_reducible apply wpl_storerow); (exact rfl); (exact rfl); infer_instance; infer_instance; (first | (with_reducible assumption) | (with_reducible exact H32.size _) | kernel_rfl); (first | (with_reducible assumption) | (with_reducible exact H32.size _) | kernel_rfl); (first | (with_reducible exact u8s_one _) | (with_reducible assumption) | kernel_rfl); intro ws _ _) | ((with_reducible apply wpl_storecell); (exact rfl); (exact rfl); infer_instance; (exact rfl); (first | (with_reducible assumption) | omega | (focus (simp; done)) | (focus (simp; omega; done)) | decide); intro ws _ _))
    go_ret
    exact ⟨rfl, (stepN (w0 := w)).chg⟩
  by_cases c5 : 512 < n
  · have c5I : 512 < (n : Int) := by omega
    go_enter Try.func6, Try.ntmps6
    go_wp2_with (first | go_skip | ((with_reducible apply wpl_alloc); intro z wz _ _ _) | ((with_reducible apply (wpl_guard (op := .load _ _))); (exact rfl)) | ((with_reducible apply (wpl_guard (op := .buildSlice _ _ _))); (exact rfl)) | ((with_reducible apply (wpl_guard (op := .fieldAddr _ _ _))); (exact rfl)) | ((with_reducible apply (wpl_guard (op := .convert _ _ _))); (exact rfl)) | ((with_reducible apply wpl_loadrow); (exact rfl); infer_instance; infer_instance; (first | (with_reducible assumption) | (with_reducible exact H32.size _) | kernel_rfl)) | ((with_reducible apply wpl_loadcellN); (exact rfl); infer_instance; (exact rfl)) | ((with_reducible apply wpl_storerow); (exact rfl); (exact rfl); infer_instance; infer_instance; (first | (with_reducible assumption) | (with_reducible exact H32.size _) | kernel_rfl); (first | (with_reducible assumption) | (with_reducible exact H32.size _) | kernel_rfl); (first | (with_reducible exact u8s_one _) | (with_reducible assumption) | kernel_rfl); intro ws _ _) | ((with_reducible apply wpl_storecell); (exact rfl); (exact rfl); infer_instance; (exact rfl); (first | (with_reducible assumption) | omega | (focus (simp; done)) | (focus (simp; omega; done)) | decide); intro ws _ _))
    go_ret
    exact ⟨rfl, (stepN (w0 := w)).chg⟩
  have c5I : ¬ 512 < (n : Int) := by omega
  obtain ⟨a, rfl⟩ : ∃ a : Nat, x = (a : Int) := ⟨x.toNat, by omega⟩
  obtain ⟨b, rfl⟩ : ∃ b : Nat, y = (b : Int) := ⟨y.toNat, by omega⟩
  obtain ⟨S, hS⟩ : ∃ S : H32, S = ⟨sha img, sha_len _⟩ := ⟨_, rfl⟩
  have HSL : Hid (S.l = sha img) := Lib.hid (by rw [hS])
  have HSE := Lib.hid hS
  clear hS
  go_enter Try.func6, Try.ntmps6
  go_wp2_with (first | go_skip | ((with_reducible apply wpl_alloc); intro z wz _ _ _) | ((with_reducible apply (wpl_guard (op := .load _ _))); (exact rfl)) | ((with_reducible apply (wpl_guard (op := .buildSlice _ _ _))); (exact rfl)) | ((with_reducible apply (wpl_guard (op := .fieldAddr _ _ _))); (exact rfl)) | ((with_reducible apply (wpl_guard (op := .convert _ _ _))); (exact rfl)) | ((with_reducible apply wpl_loadrow); (exact rfl); infer_instance; infer_instance; (first | (with_reducible assumption) | (with_reducible exact H32.size _) | kernel_rfl)) | ((with_reducible apply wpl_loadcellN); (exact rfl); infer_instance; (exact rfl)) | ((with_reducible apply wpl_storerow); (exact rfl); (exact rfl); infer_instance; infer_instance; (first | (with_reducible assumption) | (with_reducible exact H32.size _) | kernel_rfl); (first | (with_reducible assumption) | (with_reducible exact H32.size _) | kernel_rfl); (first | (with_reducible exact u8s_one _) | (with_reducible assumption) | kernel_rfl); intro ws _ _) | ((with_reducible apply wpl_storecell); (exact rfl); (exact rfl); infer_instance; (exact rfl); (first | (with_reducible assumption) | omega | (focus (simp; done)) | (focus (simp; omega; done)) | decide); intro ws _ _))
  refine (bkPages_calls _).mono ?_
  rintro e w1 ⟨rfl, hw1⟩
  obtain rfl := hw1.symm
  go_wp2_with (first | go_skip | ((with_reducible apply wpl_alloc); intro z wz _ _ _) | ((with_reducible apply (wpl_guard (op := .load _ _))); (exact rfl)) | ((with_reducible apply (wpl_guard (op := .buildSlice _ _ _))); (exact rfl)) | ((with_reducible apply (wpl_guard (op := .fieldAddr _ _ _))); (exact rfl)) | ((with_reducible apply (wpl_guard (op := .convert _ _ _))); (exact rfl)) | ((with_reducible apply wpl_loadrow); (exact rfl); infer_instance; infer_instance; (first | (with_reducible assumption) | (with_reducible exact H32.size _) | kernel_rfl)) | ((with_reducible apply wpl_loadcellN); (exact rfl); infer_instance; (exact rfl)) | ((with_reducible apply wpl_storerow); (exact rfl); (exact rfl); infer_instance; infer_instance; (first | (with_reducible assumption) | (with_reducible exact H32.size _) | kernel_rfl); (first | (with_reducible assumption) | (with_reducible exact H32.size _) | kernel_rfl); (first | (with_reducible exact u8s_one _) | (with_reducible assumption) | kernel_rfl); intro ws _ _) | ((with_reducible apply wpl_storecell); (exact rfl); (exact rfl); infer_instance; (exact rfl); (first | (with_reducible assumption) | omega | (focus (simp; done)) | (focus (simp; omega; done)) | decide); intro ws _ _))
  refine (bkNew_calls _).mono ?_
  rintro e w1 ⟨g, p, rfl, h1, _, hg, hp⟩
  have ab := above_two hg hp
  have hl1 := h1.out.lts
  go_wp2_with (first | go_skip | ((with_reducible apply (wpl_guard (op := .buildSlice _ _ _))); (exact rfl)) | ((with_reducible apply (wpl_litB (d1 := some 37))); (exact kbf _); (exact fun _ => rfl); (exact Try.underlying22); (exact Try.underlying5); (exact fun _ => rfl); intro za wa _ _ _) | ((with_reducible apply (wpl_guard (op := .call _))); (exact rfl)) | ((with_reducible apply wpl_alloc); intro z wz _ _ _) | ((with_reducible apply (wpl_guard (op := .load _ _))); (exact rfl)) | ((with_reducible apply (wpl_guard (op := .buildSlice _ _ _))); (exact rfl)) | ((with_reducible apply (wpl_guard (op := .fieldAddr _ _ _))); (exact rfl)) | ((with_reducible apply (wpl_guard (op := .convert _ _ _))); (exact rfl)) | ((with_reducible apply wpl_loadrow); (exact rfl); infer_instance; infer_instance; (first | (with_reducible assumption) | (with_reducible exact H32.size _) | kernel_rfl)) | ((with_reducible apply wpl_loadcellN); (exact rfl); infer_instance; (exact rfl)) | ((with_reducible apply wpl_storerow); (exact rfl); (exact rfl); infer_instance; infer_instance; (first | (with_reducible assumption) | (with_reducible exact H32.size _) | kernel_rfl); (first | (with_reducible assumption) | (with_reducible exact H32.size _) | kernel_rfl); (first | (with_reducible exact u8s_one _) | (with_reducible assumption) | kernel_rfl); intro ws _ _) | ((with_reducible apply wpl_storecell); (exact rfl); (exact rfl); infer_instance; (exact rfl); (first | (with_reducible assumption) | omega | (focus (simp; done)) | (focus (simp; omega; done)) | decide); intro ws _ _))
  have hra : HR wa (some ⟨za, 0, none⟩) (bs [102]) := inferInstance
  have hza : g < za ∧ p < za := by
    have := (inferInstance : Born w1 za).eq
    omega
  have H1a : Hid (BankAt wa g p 0 (bkZero, [], 9)) := Lib.hid (h1.out.calm (stepN (w0 := w1)).chg)
  have hna := hnone wa
  refine (bkInst_calls H1a.out (by decide) [102] (a : Int) (.inl rfl) (by omega) (by omega) (img := [102]) (mind := []) rfl (by decide) (by decide) (apart_new2 (by omega) (by omega)) rfl (by decide) (apart_none _ _) (by decide)).mono ?_
  obtain ⟨D, hD⟩ : ∃ D : BSt, D = ⟨if (bkZero, ([] : List UInt8), 9).2.2 = 0 then 1 - bkZero.bank else 0, [(102 : UInt8)].length, ⟨sha [102], sha_len _⟩, (a : Int).toNat, [102], []⟩ := ⟨_, rfl⟩
  have hDc : D.cnt = a := by rw [hD]; rfl
  have hDn : D.name = [102] := by rw [hD]
  have hDb : D.bank = 0 := by rw [hD]; rfl
  have HD := Lib.hid hD
  have HDC := Lib.hid hDc
  have HDN := Lib.hid hDn
  have HDB := Lib.hid hDb
  clear hD hDc hDn hDb
  rintro e w2 ⟨rfl, h2, _⟩
  have H2 : Hid (BankAt w2 g p 1 (D, [102], 0)) := Lib.hid (by rw [HD.out]; exact h2.out)
  have n2 : Nw w w2 := inferInstance
  clear h2 H1a h1
  go_wp2_with (first | go_skip | ((with_reducible apply (wpl_lit (d1 := some 46))); (exact kbm _); (exact fun _ => rfl); (exact Try.underlying22); (exact Try.underlying5); intro zb wb _ _ _) | ((with_reducible apply wpl_alloc); intro z wz _ _ _) | ((with_reducible apply (wpl_guard (op := .load _ _))); (exact rfl)) | ((with_reducible apply (wpl_guard (op := .buildSlice _ _ _))); (exact rfl)) | ((with_reducible apply (wpl_guard (op := .fieldAddr _ _ _))); (exact rfl)) | ((with_reducible apply (wpl_guard (op := .convert _ _ _))); (exact rfl)) | ((with_reducible apply wpl_loadrow); (exact rfl); infer_instance; infer_instance; (first | (with_reducible assumption) | (with_reducible exact H32.size _) | kernel_rfl)) | ((with_reducible apply wpl_loadcellN); (exact rfl); infer_instance; (exact rfl)) | ((with_reducible apply wpl_storerow); (exact rfl); (exact rfl); infer_instance; infer_instance; (first | (with_reducible assumption) | (with_reducible exact H32.size _) | kernel_rfl); (first | (with_reducible assumption) | (with_reducible exact H32.size _) | kernel_rfl); (first | (with_reducible exact u8s_one _) | (with_reducible assumption) | kernel_rfl); intro ws _ _) | ((with_reducible apply wpl_storecell); (exact rfl); (exact rfl); infer_instance; (exact rfl); (first | (with_reducible assumption) | omega | (focus (simp; done)) | (focus (simp; omega; done)) | decide); intro ws _ _))
  have hrb : HR wb (some ⟨zb, 0, none⟩) (bs [109]) := inferInstance
  have hzb : g < zb ∧ p < zb := by
    have h1 := (inferInstance : Born w2 zb).eq
    have h2 := H2.out.lts
    omega
  have H2b : Hid (BankAt wb g p 1 (D, [102], 0)) := Lib.hid (H2.out.calm (stepN (w0 := w2)).chg)
  have nb : Nw w wb := inferInstance
  have hAb : HR wb A (bs img) := ⟨HA0.out.later nb.out⟩
  have hAp : Apart (Two g p) A (bs img) := fun hne ad e h => by
    have h1 := rd_lt HA0.out hne e
    have h2 := ab.out _ h
    omega
  by_cases hba : b < a
  · have hbaI : (b : Int) < (a : Int) := by omega
    refine (bkInstNo_calls H2b.out [103] (b : Int) (x := 5) (img := img) (mind := [109]) (fun s hs => install_old hs rfl (by rw [HDC.out]; exact hbaI) (by omega) (by omega) (by have := HL.out; omega) (by decide) (by decide)) HL.out hc hn9 hAp rfl (by decide) (apart_new2 (by omega) (by omega)) (by decide)).mono ?_
    rintro e w3 ⟨rfl, h3, _⟩
    have H3 := h3
    have n3 : Nw w w3 := inferInstance
    have he0 : ((D.cnt : Int) == (a : Int)) = true := by simp [HDC.out]
    have he1 : ((strL D.name).toList == [102]) = true := by rw [HDN.out]; exact strL_self [102]
    have he2 : ((strL [102]).toList == [102]) = true := strL_self [102]
    clear h3 H2b H2
    go_wp2_with (first | go_skip | ((with_reducible apply wpl_alloc); intro z wz _ _ _) | ((with_reducible apply (wpl_guard (op := .load _ _))); (exact rfl)) | ((with_reducible apply (wpl_guard (op := .buildSlice _ _ _))); (exact rfl)) | ((with_reducible apply (wpl_guard (op := .fieldAddr _ _ _))); (exact rfl)) | ((with_reducible apply (wpl_guard (op := .convert _ _ _))); (exact rfl)) | ((with_reducible apply wpl_loadrow); (exact rfl); infer_instance; infer_instance; (first | (with_reducible assumption) | (with_reducible exact H32.size _) | kernel_rfl)) | ((with_reducible apply wpl_loadcellN); (exact rfl); infer_instance; (exact rfl)) | ((with_reducible apply wpl_storerow); (exact rfl); (exact rfl); infer_instance; infer_instance; (first | (with_reducible assumption) | (with_reducible exact H32.size _) | kernel_rfl); (first | (with_reducible assumption) | (with_reducible exact H32.size _) | kernel_rfl); (first | (with_reducible exact u8s_one _) | (with_reducible assumption) | kernel_rfl); intro ws _ _) | ((with_reducible apply wpl_storecell); (exact rfl); (exact rfl); infer_instance; (exact rfl); (first | (with_reducible assumption) | omega | (focus (simp; done)) | (focus (simp; omega; done)) | decide); intro ws _ _))
    refine (bkBootAt_calls H3.out).mono ?_
    rintro e w4 ⟨M, m, d, I, ni, ci, rfl, hm, _, _, hn, hI4, _, _⟩
    have hq := bkL_len D.bank D.size D.sum D.cnt (strL D.name) M m d
    have ho := bkL_one D.bank D.size D.sum D.cnt (strL D.name) M m d
    have hn' : [(102 : UInt8)].length = ni := hn
    go_wp2_with (first | go_skip | ((with_reducible apply wpl_storerow); (exact rfl); (exact rfl); infer_instance; infer_instance; (exact hq); (exact hs0); (exact ho); intro wq _ hbq) | ((with_reducible apply (wpl_loadcell (k := 35))); (exact rfl); (exact hbq); (exact bk_get35 _ _ _ _ _ _ _ _)) | ((with_reducible apply (wpl_loadcell (k := 34))); (exact rfl); (exact hbq); (exact bk_get34 _ _ _ _ _ _ _ _)) | ((with_reducible apply (wpl_alloc (dst := some 9))); intro zq wzq _ _ _) | ((with_reducible apply wpl_alloc); intro z wz _ _ _) | ((with_reducible apply (wpl_guard (op := .load _ _))); (exact rfl)) | ((with_reducible apply (wpl_guard (op := .buildSlice _ _ _))); (exact rfl)) | ((with_reducible apply (wpl_guard (op := .fieldAddr _ _ _))); (exact rfl)) | ((with_reducible apply (wpl_guard (op := .convert _ _ _))); (exact rfl)) | ((with_reducible apply wpl_loadrow); (exact rfl); infer_instance; infer_instance; (first | (with_reducible assumption) | (with_reducible exact H32.size _) | kernel_rfl)) | ((with_reducible apply wpl_loadcellN); (exact rfl); infer_instance; (exact rfl)) | ((with_reducible apply wpl_storerow); (exact rfl); (exact rfl); infer_instance; infer_instance; (first | (with_reducible assumption) | (with_reducible exact H32.size _) | kernel_rfl); (first | (with_reducible assumption) | (with_reducible exact H32.size _) | kernel_rfl); (first | (with_reducible exact u8s_one _) | (with_reducible assumption) | kernel_rfl); intro ws _ _) | ((with_reducible apply wpl_storecell); (exact rfl); (exact rfl); infer_instance; (exact rfl); (first | (with_reducible assumption) | omega | (focus (simp; done)) | (focus (simp; omega; done)) | decide); intro ws _ _) | ((with_reducible apply (wpl_loadhash (t := 52))); (exact rfl); infer_instance; infer_instance; (first | (with_reducible assumption) | omega)) | ((with_reducible apply (wpl_storehash (t := 52))); (exact rfl); (exact rfl); infer_instance; infer_instance; (first | (with_reducible assumption) | omega | (focus (simp; done)) | (focus (simp; omega; done)) | decide); intro ws _ _) | ((with_reducible apply wpl_conv); (exact rfl); infer_instance; (first | (with_reducible assumption) | (focus (simp; done)) | omega); (exact Try.underlying22); (exact Try.underlying5); (exact Try.underlying9)) | ((with_reducible apply (wpl_loadint (t := 3))); (exact rfl); infer_instance; infer_instance; (first | (with_reducible assumption) | omega)) | ((with_reducible apply (wpl_loadbyte (t := 5))); (exact rfl); infer_instance; infer_instance; (first | (with_reducible assumption) | omega)) | ((with_reducible apply (wpl_storeint (t := 3))); (exact rfl); (exact rfl); infer_instance; (first | (with_reducible assumption) | omega); intro ws _ _) | ((with_reducible apply (wpl_storebyte (t := 5))); (exact rfl); (exact rfl); infer_instance; (first | (with_reducible assumption) | omega | (focus (simp; done)) | (focus (simp; omega; done)) | decide); (constructor <;> omega); intro ws _ _))
    refine (bkKnown_calls _).mono ?_
    rintro e w5 ⟨rfl, _⟩
    go_wp2_with (first | go_skip | ((with_reducible apply wpl_alloc); intro z wz _ _ _) | ((with_reducible apply (wpl_guard (op := .load _ _))); (exact rfl)) | ((with_reducible apply (wpl_guard (op := .buildSlice _ _ _))); (exact rfl)) | ((with_reducible apply (wpl_guard (op := .fieldAddr _ _ _))); (exact rfl)) | ((with_reducible apply (wpl_guard (op := .convert _ _ _))); (exact rfl)) | ((with_reducible apply wpl_loadrow); (exact rfl); infer_instance; infer_instance; (first | (with_reducible assumption) | (with_reducible exact H32.size _) | kernel_rfl)) | ((with_reducible apply wpl_loadcellN); (exact rfl); infer_instance; (exact rfl)) | ((with_reducible apply wpl_storerow); (exact rfl); (exact rfl); infer_instance; infer_instance; (first | (with_reducible assumption) | (with_reducible exact H32.size _) | kernel_rfl); (first | (with_reducible assumption) | (with_reducible exact H32.size _) | kernel_rfl); (first | (with_reducible exact u8s_one _) | (with_reducible assumption) | kernel_rfl); intro ws _ _) | ((with_reducible apply wpl_storecell); (exact rfl); (exact rfl); infer_instance; (exact rfl); (first | (with_reducible assumption) | omega | (focus (simp; done)) | (focus (simp; omega; done)) | decide); intro ws _ _))
    go_ret
    exact ⟨rfl, (inferInstance : Nw w _).out⟩
  · have hbaI : ¬ (b : Int) < (a : Int) := by omega
    refine (bkInst_calls H2b.out (by decide) [103] (b : Int) (.inr ⟨rfl, by have := HDC.out; show (D.cnt : Int) ≤ b; omega⟩) (by omega) (by omega) (img := img) (mind := [109]) HL.out hc (by omega) hAp rfl (by decide) (apart_new2 (by omega) (by omega)) (by decide)).mono ?_
    rintro e w3 ⟨rfl, h3, _⟩
    obtain ⟨D2, hD2⟩ : ∃ D2 : BSt, D2 = ⟨if (D, [(102 : UInt8)], 0).2.2 = 0 then 1 - D.bank else 0, img.length, ⟨sha img, sha_len _⟩, (b : Int).toNat, [103], [109]⟩ := ⟨_, rfl⟩
    have hDc : D2.cnt = b := by rw [hD2]; rfl
    have hDn : D2.name = [103] := by rw [hD2]
    have hDm : D2.mind = [109] := by rw [hD2]
    have hDs : D2.sum = S := by rw [hD2, HSE.out]
    have H3 : Hid (BankAt w3 g p 2 (D2, img, 0)) := Lib.hid (by rw [hD2]; exact h3.out)
    have HE0 : Hid (((D2.cnt : Int) == (b : Int)) = true) := Lib.hid (by simp [hDc])
    have HE1 : Hid (((strL D2.name).toList == [103]) = true) := Lib.hid (by rw [hDn]; exact strL_self [103])
    have HE2 : Hid (((strL img).toList == (strL img).toList) = true) := Lib.hid (by simp)
    have HE3 : Hid (((strL D2.mind).toList == [109]) = true) := Lib.hid (by rw [hDm]; exact strL_self [109])
    have HE4 : Hid (True = True) := Lib.hid rfl
    have heq : ∀ w, (binOp .eql 52 (.agg (u8s D2.sum.l)) (.agg (u8s S.l))).run Try.prog w = .ok (.bool true) w := fun w => by rw [eqlHB, decide_eq_true hDs]
    have n3 : Nw w w3 := inferInstance
    clear h3 H2b H2 hD2 hDc hDn hDm hDs
    go_wp2_with (first | go_skip | ((with_reducible apply wpl_alloc); intro z wz _ _ _) | ((with_reducible apply (wpl_guard (op := .load _ _))); (exact rfl)) | ((with_reducible apply (wpl_guard (op := .buildSlice _ _ _))); (exact rfl)) | ((with_reducible apply (wpl_guard (op := .fieldAddr _ _ _))); (exact rfl)) | ((with_reducible apply (wpl_guard (op := .convert _ _ _))); (exact rfl)) | ((with_reducible apply wpl_loadrow); (exact rfl); infer_instance; infer_instance; (first | (with_reducible assumption) | (with_reducible exact H32.size _) | kernel_rfl)) | ((with_reducible apply wpl_loadcellN); (exact rfl); infer_instance; (exact rfl)) | ((with_reducible apply wpl_storerow); (exact rfl); (exact rfl); infer_instance; infer_instance; (first | (with_reducible assumption) | (with_reducible exact H32.size _) | kernel_rfl); (first | (with_reducible assumption) | (with_reducible exact H32.size _) | kernel_rfl); (first | (with_reducible exact u8s_one _) | (with_reducible assumption) | kernel_rfl); intro ws _ _) | ((with_reducible apply wpl_storecell); (exact rfl); (exact rfl); infer_instance; (exact rfl); (first | (with_reducible assumption) | omega | (focus (simp; done)) | (focus (simp; omega; done)) | decide); intro ws _ _))
    refine (bkBootAt_calls H3.out).mono ?_
    rintro e w4 ⟨M, m, d, I, ni, ci, rfl, hm, hM4, _, hn, hI4, _, _⟩
    have hq := bkL_len D2.bank D2.size D2.sum D2.cnt (strL D2.name) M m d
    have ho := bkL_one D2.bank D2.size D2.sum D2.cnt (strL D2.name) M m d
    have n4 : Nw w w4 := inferInstance
    have hA4 : HR w4 A (bs img) := ⟨HA0.out.later n4.out⟩
    have hnA : img.length = n := HL.out
    go_wp2_with (first | go_skip | ((with_reducible apply wpl_storerow); (exact rfl); (exact rfl); infer_instance; infer_instance; (exact hq); (exact hs0); (exact ho); intro wq _ hbq) | ((with_reducible apply (wpl_alloc (dst := some 9))); intro zq wzq _ _ _) | ((with_reducible apply wpl_alloc); intro z wz _ _ _) | ((with_reducible apply (wpl_guard (op := .load _ _))); (exact rfl)) | ((with_reducible apply (wpl_guard (op := .buildSlice _ _ _))); (exact rfl)) | ((with_reducible apply (wpl_guard (op := .fieldAddr _ _ _))); (exact rfl)) | ((with_reducible apply (wpl_guard (op := .convert _ _ _))); (exact rfl)) | ((with_reducible apply wpl_loadrow); (exact rfl); infer_instance; infer_instance; (first | (with_reducible assumption) | (with_reducible exact H32.size _) | kernel_rfl)) | ((with_reducible apply wpl_loadcellN); (exact rfl); infer_instance; (exact rfl)) | ((with_reducible apply wpl_storerow); (exact rfl); (exact rfl); infer_instance; infer_instance; (first | (with_reducible assumption) | (with_reducible exact H32.size _) | kernel_rfl); (first | (with_reducible assumption) | (with_reducible exact H32.size _) | kernel_rfl); (first | (with_reducible exact u8s_one _) | (with_reducible assumption) | kernel_rfl); intro ws _ _) | ((with_reducible apply wpl_storecell); (exact rfl); (exact rfl); infer_instance; (exact rfl); (first | (with_reducible assumption) | omega | (focus (simp; done)) | (focus (simp; omega; done)) | decide); intro ws _ _))
    have hA5 : HR wq A (bs img) := inferInstance
    have hM5 : HR wq M (bs D2.mind) := inferInstance
    have hI5 : HR wq I (bs img) := inferInstance
    have hbq5 : HB wq zq 54 (bkL D2.bank D2.size D2.sum D2.cnt (strL D2.name) M m d).toArray := hbq
    have n5 : Nw w wq := inferInstance
    refine wp_region_N (nowhere) (by kernel_rfl) (fun wd _ _ => ?_)
    refine' takeH (i := 0) (v := _) rfl (by kernel_rfl) (by kernel_rfl) (by kernel_rfl) (fun _ _ _ h => h) (yields_of (by rfl) (fun w' _ => ?_)) inferInstance ?_
    rotate_left
    · (go_simp; try with_reducible rfl)
    try simp only [Act.put, sA]; try simp only [sB, sC]
    refine' takeH (i := 1) (v := _) rfl (by kernel_rfl) (by kernel_rfl) (by kernel_rfl) (fun _ _ _ h => h) (yields_of (by rfl) (fun w' _ => ?_)) inferInstance ?_
    rotate_left
    · (go_simp; try with_reducible rfl)
    try simp only [Act.put, sA]; try simp only [sB, sC]
    try simp only [HE0.out]
    try simp only [HE1.out]
    try simp only [HE2.out]
    try simp only [HE3.out]
    try simp only [HE4.out]
    refine' takeH (i := 2) (v := _) rfl (by kernel_rfl) (by kernel_rfl) (by kernel_rfl) (fun _ _ _ h => h) (yields_of (by rfl) (fun w' _ => ?_)) inferInstance ?_
    rotate_left
    · (go_simp; try with_reducible rfl)
    try simp only [Act.put, sA]; try simp only [sB, sC]
    refine' takeH (i := 3) (v := _) rfl (by kernel_rfl) (by kernel_rfl) (by kernel_rfl) (fun _ _ _ h => h) (yields_of (by rfl) (fun w' _ => ?_)) inferInstance ?_
    rotate_left
    · (go_simp; try with_reducible rfl)
    try simp only [Act.put, sA]; try simp only [sB, sC]
    refine' takeH (i := 4) (v := _) rfl (by kernel_rfl) (by kernel_rfl) (by kernel_rfl) (fun _ _ _ h => h) (yields_of (by rfl) (fun w' _ => ?_)) inferInstance ?_
    rotate_left
    · (go_simp; try with_reducible rfl)
    try simp only [Act.put, sA]; try simp only [sB, sC]
    try simp only [HE0.out]
    try simp only [HE1.out]
    try simp only [HE2.out]
    try simp only [HE3.out]
    try simp only [HE4.out]
    refine' takeH (i := 5) (v := _) rfl (by kernel_rfl) (by kernel_rfl) (by kernel_rfl) (fun _ _ _ h => h) (yields_of (by rfl) (fun w' _ => ?_)) inferInstance ?_
    rotate_left
    · (go_simp; try with_reducible rfl)
    try simp only [Act.put, sA]; try simp only [sB, sC]
    refine' takeH (i := 6) (v := _) rfl (by kernel_rfl) (by kernel_rfl) (by kernel_rfl) (fun _ _ _ h => h) (yields_of (by rfl) (fun w' _ => ?_)) inferInstance ?_
    rotate_left
    · (go_simp; try with_reducible rfl)
    try simp only [Act.put, sA]; try simp only [sB, sC]
    refine' takeH (i := 7) (v := _) rfl (by kernel_rfl) (by kernel_rfl) (by kernel_rfl) (fun _ _ _ h => h) (yields_of (by rfl) (fun w' _ => ?_)) inferInstance ?_
    rotate_left
    · (go_simp; try with_reducible rfl)
    try simp only [Act.put, sA]; try simp only [sB, sC]
    refine' takeH (i := 8) (v := _) rfl (by kernel_rfl) (by kernel_rfl) (by kernel_rfl) (fun _ _ _ h => h) (yields_of (by rfl) (fun w' _ => ?_)) inferInstance ?_
    rotate_left
    · (first | ((with_reducible apply ev_conv); (exact rfl); infer_instance; (first | (with_reducible assumption) | (focus (simp; done)) | omega); (exact Try.underlying22); (exact Try.underlying5); (exact Try.underlying9)) | (go_simp; try with_reducible rfl))
    try simp only [Act.put, sA]; try simp only [sB, sC]
    refine' takeH (i := 9) (v := _) rfl (by kernel_rfl) (by kernel_rfl) (by kernel_rfl) (fun _ _ _ h => h) (yields_of (by rfl) (fun w' _ => ?_)) inferInstance ?_
    rotate_left
    · (go_simp; try with_reducible rfl)
    try simp only [Act.put, sA]; try simp only [sB, sC]
    refine' takeH (i := 10) (v := _) rfl (by kernel_rfl) (by kernel_rfl) (by kernel_rfl) (fun _ _ _ h => h) (yields_of (by rfl) (fun w' _ => ?_)) inferInstance ?_
    rotate_left
    · (first | ((with_reducible apply ev_conv); (exact rfl); infer_instance; (first | (with_reducible assumption) | (focus (simp; done)) | omega); (exact Try.underlying22); (exact Try.underlying5); (exact Try.underlying9)) | (go_simp; try with_reducible rfl))
    try simp only [Act.put, sA]; try simp only [sB, sC]
    refine' takeH (i := 11) (v := _) rfl (by kernel_rfl) (by kernel_rfl) (by kernel_rfl) (fun _ _ _ h => h) (yields_of (by rfl) (fun w' _ => ?_)) inferInstance ?_
    rotate_left
    · (go_simp; try with_reducible rfl)
    try simp only [Act.put, sA]; try simp only [sB, sC]
    try simp only [HE0.out]
    try simp only [HE1.out]
    try simp only [HE2.out]
    try simp only [HE3.out]
    try simp only [HE4.out]
    refine' takeH (i := 12) (v := _) rfl (by kernel_rfl) (by kernel_rfl) (by kernel_rfl) (fun _ _ _ h => h) (yields_of (by rfl) (fun w' _ => ?_)) inferInstance ?_
    rotate_left
    · (go_simp; try with_reducible rfl)
    try simp only [Act.put, sA]; try simp only [sB, sC]
    refine' takeH (i := 13) (v := _) rfl (by kernel_rfl) (by kernel_rfl) (by kernel_rfl) (fun _ _ _ h => h) (yields_of (by rfl) (fun w' _ => ?_)) inferInstance ?_
    rotate_left
    · (go_simp; try with_reducible rfl)
    try simp only [Act.put, sA]; try simp only [sB, sC]
    refine' takeH (i := 14) (v := _) rfl (by kernel_rfl) (by kernel_rfl) (by kernel_rfl) (fun _ _ _ h => h) (yields_of (by rfl) (fun w' _ => ?_)) inferInstance ?_
    rotate_left
    · (go_simp; try with_reducible rfl)
    try simp only [Act.put, sA]; try simp only [sB, sC]
    refine' takeH (i := 15) (v := _) rfl (by kernel_rfl) (by kernel_rfl) (by kernel_rfl) (fun _ _ _ h => h) (yields_of (by rfl) (fun w' _ => ?_)) inferInstance ?_
    rotate_left
    · (first | ((with_reducible apply (ev_loadcell (k := 34))); (exact rfl); infer_instance; infer_instance; (exact bk_get34 _ _ _ _ _ _ _ _)))
    try simp only [Act.put, sA]; try simp only [sB, sC]
    refine' takeH (i := 16) (v := _) rfl (by kernel_rfl) (by kernel_rfl) (by kernel_rfl) (fun _ _ _ h => h) (yields_of (by rfl) (fun w' _ => ?_)) inferInstance ?_
    rotate_left
    · (go_simp; try with_reducible rfl)
    try simp only [Act.put, sA]; try simp only [sB, sC]
    refine' takeH (i := 17) (v := _) rfl (by kernel_rfl) (by kernel_rfl) (by kernel_rfl) (fun _ _ _ h => h) (yields_of (by rfl) (fun w' _ => ?_)) inferInstance ?_
    rotate_left
    · (go_simp; try with_reducible rfl)
    try simp only [Act.put, sA]; try simp only [sB, sC]
    try simp only [HE0.out]
    try simp only [HE1.out]
    try simp only [HE2.out]
    try simp only [HE3.out]
    try simp only [HE4.out]
    refine' takeH (i := 18) (v := _) rfl (by kernel_rfl) (by kernel_rfl) (by kernel_rfl) (fun _ _ _ h => h) (yields_of (by rfl) (fun w' _ => ?_)) inferInstance ?_
    rotate_left
    · (go_simp; try with_reducible rfl)
    try simp only [Act.put, sA]; try simp only [sB, sC]
    refine' takeH (i := 19) (v := _) rfl (by kernel_rfl) (by kernel_rfl) (by kernel_rfl) (fun _ _ _ h => h) (yields_of (by rfl) (fun w' _ => ?_)) inferInstance ?_
    rotate_left
    · (go_simp; try with_reducible rfl)
    try simp only [Act.put, sA]; try simp only [sB, sC]
    refine' takeH (i := 20) (v := _) rfl (by kernel_rfl) (by kernel_rfl) (by kernel_rfl) (fun _ _ _ h => h) (yields_of (by rfl) (fun w' _ => ?_)) inferInstance ?_
    rotate_left
    · (go_simp; try with_reducible rfl)
    try simp only [Act.put, sA]; try simp only [sB, sC]
    refine' takeH (i := 21) (v := _) rfl (by kernel_rfl) (by kernel_rfl) (by kernel_rfl) (fun _ _ _ h => h) (yields_of (by rfl) (fun w' _ => ?_)) inferInstance ?_
    rotate_left
    · (first | ((with_reducible apply (ev_loadcell (k := 35))); (exact rfl); infer_instance; infer_instance; (exact bk_get35 _ _ _ _ _ _ _ _)))
    try simp only [Act.put, sA]; try simp only [sB, sC]
    refine' takeH (i := 22) (v := _) rfl (by kernel_rfl) (by kernel_rfl) (by kernel_rfl) (fun _ _ _ h => h) (yields_of (by rfl) (fun w' _ => ?_)) inferInstance ?_
    rotate_left
    · (go_simp; try with_reducible rfl)
    try simp only [Act.put, sA]; try simp only [sB, sC]
    try simp only [HE0.out]
    try simp only [HE1.out]
    try simp only [HE2.out]
    try simp only [HE3.out]
    try simp only [HE4.out]
    refine' takeH (i := 23) (v := _) rfl (by kernel_rfl) (by kernel_rfl) (by kernel_rfl) (fun _ _ _ h => h) (yields_of (by rfl) (fun w' _ => ?_)) inferInstance ?_
    rotate_left
    · (go_simp; try with_reducible rfl)
    try simp only [Act.put, sA]; try simp only [sB, sC]
    refine' takeH (i := 24) (v := _) rfl (by kernel_rfl) (by kernel_rfl) (by kernel_rfl) (fun _ _ _ h => h) (yields_of (by rfl) (fun w' _ => ?_)) inferInstance ?_
    rotate_left
    · (go_simp; try with_reducible rfl)
    try simp only [Act.put, sA]; try simp only [sB, sC]
    refine' takeH (i := 25) (v := _) rfl (by kernel_rfl) (by kernel_rfl) (by kernel_rfl) (fun _ _ _ h => h) (yields_of (by rfl) (fun w' _ => ?_)) inferInstance ?_
    rotate_left
    · (go_simp; try with_reducible rfl)
    try simp only [Act.put, sA]; try simp only [sB, sC]
    refine' takeH (i := 26) (v := _) rfl (by kernel_rfl) (by kernel_rfl) (by kernel_rfl) (fun _ _ _ h => h) (yields_of (by rfl) (fun w' _ => ?_)) inferInstance ?_
    rotate_left
    · (first | ((with_reducible apply (ev_loadcell (k := 36))); (exact rfl); infer_instance; infer_instance; (exact bk_get36 _ _ _ _ _ _ _ _)))
    try simp only [Act.put, sA]; try simp only [sB, sC]
    refine' takeH (i := 27) (v := _) rfl (by kernel_rfl) (by kernel_rfl) (by kernel_rfl) (fun _ _ _ h => h) (yields_of (by rfl) (fun w' _ => ?_)) inferInstance ?_
    rotate_left
    · (first | ((with_reducible apply ev_conv); (exact rfl); infer_instance; (first | (with_reducible assumption) | (focus (simp; done)) | omega); (exact Try.underlying22); (exact Try.underlying5); (exact Try.underlying9)) | (go_simp; try with_reducible rfl))
    try simp only [Act.put, sA]; try simp only [sB, sC]
    refine' takeH (i := 28) (v := _) rfl (by kernel_rfl) (by kernel_rfl) (by kernel_rfl) (fun _ _ _ h => h) (yields_of (by rfl) (fun w' _ => ?_)) inferInstance ?_
    rotate_left
    · (go_simp; try with_reducible rfl)
    try simp only [Act.put, sA]; try simp only [sB, sC]
    try simp only [HE0.out]
    try simp only [HE1.out]
    try simp only [HE2.out]
    try simp only [HE3.out]
    try simp only [HE4.out]
    refine' takeH (i := 29) (v := _) rfl (by kernel_rfl) (by kernel_rfl) (by kernel_rfl) (fun _ _ _ h => h) (yields_of (by rfl) (fun w' _ => ?_)) inferInstance ?_
    rotate_left
    · (go_simp; try with_reducible rfl)
    try simp only [Act.put, sA]; try simp only [sB, sC]
    refine' takeH (i := 30) (v := _) rfl (by kernel_rfl) (by kernel_rfl) (by kernel_rfl) (fun _ _ _ h => h) (yields_of (by rfl) (fun w' _ => ?_)) inferInstance ?_
    rotate_left
    · (go_simp; try with_reducible rfl)
    try simp only [Act.put, sA]; try simp only [sB, sC]
    refine' takeH (i := 31) (v := _) rfl (by kernel_rfl) (by kernel_rfl) (by kernel_rfl) (fun _ _ _ h => h) (yields_of (by rfl) (fun w' _ => ?_)) inferInstance ?_
    rotate_left
    · (go_simp; try with_reducible rfl)
    try simp only [Act.put, sA]; try simp only [sB, sC]
    refine' takeH (i := 32) (v := _) rfl (by kernel_rfl) (by kernel_rfl) (by kernel_rfl) (fun _ _ _ h => h) (yields_of (by rfl) (fun w' _ => ?_)) inferInstance ?_
    rotate_left
    · (first | ((with_reducible apply ev_loadpartB); (exact rfl); infer_instance; infer_instance; (exact bk_sum _ _ _ _ _ _ _ _)))
    try simp only [Act.put, sA]; try simp only [sB, sC]
    refine' takeH (i := 33) (v := _) rfl (by kernel_rfl) (by kernel_rfl) (by kernel_rfl) (fun _ _ _ h => h) (yields_of (by rfl) (fun w' _ => ?_)) inferInstance ?_
    rotate_left
    · (go_simp; try with_reducible rfl)
    try simp only [Act.put, sA]; try simp only [sB, sC]
    refine goH (i := 34) (by kernel_rfl) rfl (fun K_ hK_ => ?_)
    go_simp
    refine (dRefSum_calls A n c img wd (inferInstance : HR wd A (bs img)).out HL.out (by omega)).mono ?_
    rw [← HSL.out]
    rintro e w6 ⟨rfl, hc6⟩
    have s6 : Step nowhere wd w6 := ⟨hc6.out⟩
    clear hc6
    refine hK_.out _ _ inferInstance (fun _ => ?_)
    clear hK_ K_
    try simp only [Act.put, sA]; try simp only [sB, sC]
    refine' takeH (i := 35) (v := _) rfl (by kernel_rfl) (by kernel_rfl) (by kernel_rfl) (fun _ _ _ h => h) (yields_of (by rfl) (fun w' _ => ?_)) inferInstance ?_
    rotate_left
    · (go_simp; try with_reducible rfl)
    try simp only [Act.put, sA]; try simp only [sB, sC]
    try simp only [HE0.out]
    try simp only [HE1.out]
    try simp only [HE2.out]
    try simp only [HE3.out]
    try simp only [HE4.out]
    refine' takeH (i := 36) (v := _) rfl (by kernel_rfl) (by kernel_rfl) (by kernel_rfl) (fun _ _ _ h => h) (yields_of (by rfl) (fun w' _ => ?_)) inferInstance ?_
    rotate_left
    · (go_simp; try with_reducible rfl)
    try simp only [Act.put, sA]; try simp only [sB, sC]
    refine' takeH (i := 37) (v := _) rfl (by kernel_rfl) (by kernel_rfl) (by kernel_rfl) (fun _ _ _ h => h) (yields_of (by rfl) (fun w' _ => ?_)) inferInstance ?_
    rotate_left
    · (go_simp; try with_reducible rfl)
    try simp only [Act.put, sA]; try simp only [sB, sC]
    refine goH (i := 38) (by kernel_rfl) rfl (fun K_ hK_ => ?_)
    go_simp
    refine (bkKnown_calls _).mono ?_
    rintro e w7 ⟨rfl, _⟩
    refine hK_.out _ _ inferInstance (fun _ => ?_)
    clear hK_ K_
    try simp only [Act.put, sA]; try simp only [sB, sC]
    refine' takeH (i := 39) (v := _) rfl (by kernel_rfl) (by kernel_rfl) (by kernel_rfl) (fun _ _ _ h => h) (yields_of (by rfl) (fun w' _ => ?_)) inferInstance ?_
    rotate_left
    · (go_simp; try with_reducible rfl)
    try simp only [Act.put, sA]; try simp only [sB, sC]
    refine' takeH (i := 40) (v := _) rfl (by kernel_rfl) (by kernel_rfl) (by kernel_rfl) (fun _ _ _ h => h) (yields_of (by rfl) (fun w' _ => ?_)) inferInstance ?_
    rotate_left
    · (go_simp; try with_reducible rfl)
    try simp only [Act.put, sA]; try simp only [sB, sC]
    refine wpAnyH_done (by kernel_rfl) ?_ _
    go_wp2_with (first | go_skip | ((with_reducible apply wpl_alloc); intro z wz _ _ _) | ((with_reducible apply (wpl_guard (op := .load _ _))); (exact rfl)) | ((with_reducible apply (wpl_guard (op := .buildSlice _ _ _))); (exact rfl)) | ((with_reducible apply (wpl_guard (op := .fieldAddr _ _ _))); (exact rfl)) | ((with_reducible apply (wpl_guard (op := .convert _ _ _))); (exact rfl)) | ((with_reducible apply wpl_loadrow); (exact rfl); infer_instance; infer_instance; (first | (with_reducible assumption) | (with_reducible exact H32.size _) | kernel_rfl)) | ((with_reducible apply wpl_loadcellN); (exact rfl); infer_instance; (exact rfl)) | ((with_reducible apply wpl_storerow); (exact rfl); (exact rfl); infer_instance; infer_instance; (first | (with_reducible assumption) | (with_reducible exact H32.size _) | kernel_rfl); (first | (with_reducible assumption) | (with_reducible exact H32.size _) | kernel_rfl); (first | (with_reducible exact u8s_one _) | (with_reducible assumption) | kernel_rfl); intro ws _ _) | ((with_reducible apply wpl_storecell); (exact rfl); (exact rfl); infer_instance; (exact rfl); (first | (with_reducible assumption) | omega | (focus (simp; done)) | (focus (simp; omega; done)) | decide); intro ws _ _))
    go_ret
    exact ⟨rfl, (inferInstance : Nw w _).out⟩
end Go.Proofs.Ytegdihpnefoolaa
