/- Fr, OcRfA, OcRfB, OcRfC, WzA, WzB, UnD, RoM -/
import Derived.Test.YthcleccofccbdaaGreatTxOcEl
import Derived.Test.YthcleccofccbdaaGreatTxOcW
import Derived.Test.YthcleccofccbdaaGreatTxWxB
import Derived.Test.YthcleccofccbdaaGreatTxRrA
import Derived.Test.YthcleccofccbdaaGreatTxWyQ
import Derived.Test.YthcleccofccbdaaGreatTxUnC
section
open Go Go.RowKit
namespace Go.Proofs.YthcleccofccbdaaGreat
/-- a row that the call made since w0 -/
structure Fresh (w0 w : World) (A : Option Addr) (n c : Nat) (xs : List UInt8) : Prop where
  own : Own w 5 1 A n c (bs xs)
  len : n = xs.length
  chg : Chg nowhere w0 w
  new : ∀ ad, A = some ad → w0.heap.size ≤ ad.block
theorem Fresh.nil (w : World) : Fresh w w none 0 0 [] := ⟨Own.nil _ _ _, rfl, Chg.refl _ _, fun ad e => by cases e⟩
theorem Fresh.push {w0 w wx w2 : World} {A A' : Option Addr} {n c n' c' : Nat} {xs ys : List UInt8} (h : Fresh w0 w A n c xs) (h0 : Chg nowhere w wx) (hc : Chg (fun k => ∃ ad, A = some ad ∧ ad.block = k) wx w2)
    (ho : Own w2 5 1 A' n' c' (bs ys)) (hn : n' = ys.length) (hA : A' = A ∨ ∃ z, A' = some ⟨z, 0, none⟩ ∧ w.heap.size ≤ z) : Fresh w0 w2 A' n' c' ys := by
  refine ⟨ho, hn, (h.chg.step h0 (fun _ h => h.elim)).step hc ?_, ?_⟩
  · rintro x ⟨ad, e, rfl⟩
    exact h.new ad e
  · rintro ad rfl
    rcases hA with e | ⟨z, e, hz⟩
    · exact h.new ad e.symm
    · injection e with e
      subst e
      have := h.chg.size
      show w0.heap.size ≤ z
      omega
theorem Fresh.rd {w0 w : World} {A : Option Addr} {n c : Nat} {xs : List UInt8} (h : Fresh w0 w A n c xs) : Rd w A (bs xs) := h.own.rd
/-- a byte more -/
theorem Fresh.one {w0 w w2 : World} {A A' : Option Addr} {n c c' : Nat} {xs : List UInt8} {b : UInt8} {o : Obj} (h : Fresh w0 w A n c xs) (hc : Chg (fun k => ∃ ad, A = some ad ∧ ad.block = k) (w.alloc o) w2)
    (ho : Own w2 5 1 A' (n + 1) c' (bs xs ++ [.int .u8 (b.toNat : Int)])) (hA : A' = A ∨ A' = some ⟨w.heap.size + 1, 0, none⟩) : Fresh w0 w2 A' (n + 1) c' (xs ++ [b]) := by
  refine h.push (wx := w.alloc o) ((Chg.refl _ _).alloc _) hc (by simpa [bs, u8v] using ho) (by simp [h.len]) (hA.imp id fun e => ⟨_, e, Nat.le_succ _⟩)
/-- many bytes more -/
theorem Fresh.many {w0 w w2 : World} {A A' : Option Addr} {n m c c' : Nat} {xs ys : List UInt8} (h : Fresh w0 w A n c xs) (hm : ys.length = m) (hc : Chg (fun k => ∃ ad, A = some ad ∧ ad.block = k) w w2)
    (ho : Own w2 5 1 A' (n + m) c' (bs xs ++ bs ys)) (hA : A' = A ∨ ∃ z, A' = some ⟨z, 0, none⟩ ∧ w.heap.size ≤ z) : Fresh w0 w2 A' (n + m) c' (xs ++ ys) := by
  refine h.push (wx := w) (Chg.refl _ _) hc (by rw [bs_append] at ho; exact ho) (by simp [h.len, hm]) hA
theorem Fresh.le {w0 w : World} {A : Option Addr} {n c : Nat} {xs : List UInt8} (h : Fresh w0 w A n c xs) : n ≤ c := by
  rcases h.own.form with ⟨_, h1, h2, _⟩ | ⟨_, _, _, _, h1, _⟩ <;> omega
end Go.Proofs.YthcleccofccbdaaGreat
end
section
open Go Go.RowKit
namespace Go.Proofs.YthcleccofccbdaaGreat
theorem u8_or_128' (m : Nat) : Value.int .u8 (bits .or .u8 ((m : Int) % 128) 128) = u8v (UInt8.ofNat (m % 128 + 128)) := by
  have h := u8_or_128 (m % 128)
  rw [show (((m % 128 : Nat) : Int) % 256) = (m : Int) % 128 by omega, Nat.mod_mod] at h
  exact h
theorem u64_and127 (m : Nat) (h : m < 18446744073709551616) : bits .and .u64 (m : Int) 127 = ((m % 128 : Nat) : Int) := by
  rw [show (127 : Int) = ((127 : Nat) : Int) from rfl, u64_and_nat m 127 h (by decide), nat_mask7]
set_option maxRecDepth 100000 in
set_option maxHeartbeats 400000 in
theorem refNum_calls (v : Int) (w : World) :
    Calls Tryz.prog 37 #[.int .i64 v] w fun e w' => ∃ A n c, e = .returned (.slice A n c) ∧ Hid (Fresh w w' A n c (enc (clampN v))) := by
  have hle := clampN_le v
  have HLEN := Lib.hid (enc_len (clampN v) hle)
  have hcl : (v ≤ 0 ∧ clampN v = 0) ∨ ((0 < v ∧ v ≤ 4611686018427387904) ∧ (clampN v : Int) = v) ∨ (4611686018427387904 < v ∧ clampN v = 4611686018427387904) := by
    unfold clampN; omega
  obtain ⟨N, hN⟩ : ∃ N, N = clampN v := ⟨_, rfl⟩
  rw [← hN] at hcl hle HLEN ⊢
  have hN9 : N ≤ 9223372036854775807 := by omega
  clear hN hle
  rcases hcl with ⟨hv, hcl⟩ | ⟨⟨hv, hv2⟩, hcl⟩ | ⟨hv, hcl⟩
  all_goals
    have HCL := Lib.hid hcl
    clear hcl
    go_enter Tryz.func37, Tryz.ntmps37
    go_wp2_with fail
    go_loopw [3, 4] (fun t u wr => ∃ (m : Nat) (A1 : Option Addr) (n1 c1 : Nat) (pre : List UInt8), m ≤ N ∧ t = .int .u64 m ∧ u = .slice A1 n1 c1 ∧ Fresh w wr A1 n1 c1 pre ∧ pre ++ enc m = enc N) (fun t _ _ => (intOf t).toNat)
    case atStart => exact ⟨N, none, 0, 0, [], Nat.le_refl _, by have := HCL.out; first | (rw [this]; rfl) | (rw [this]; go_num) | (rw [← this]), rfl, Fresh.nil _, rfl⟩
    case round =>
      obtain ⟨m, A1, n1, c1, pre, hm, rfl, rfl, hfr, henc⟩ := hrel
      have hpre : pre.length ≤ 9 := by have h1 := congrArg List.length henc; have h2 := HLEN.out; simp at h1; omega
      have hm64 : m < 18446744073709551616 := by omega
      have HF := Lib.hid hfr
      have HENC := Lib.hid henc
      have HB : Hid (n1 + 1 ≤ lim) := hid_lim (by rw [hfr.len]; omega)
      have q1 := u64_and127 m hm64
      clear hfr henc hm64
      by_cases hlt : m < 128
      · have e1 : (m : Int) < 128 := by omega
        go_wp2_with (at_builtin; refine wpList_append_one rfl (.tmp 22) (.tmp 25) elemB rfl (Nat.le_refl _) rfl (HF.out.own.alloc _) rfl (Rd.lit _ [_] _) rfl HB ?_)
        intro A2 c2 w2 hown2 hchg2 hA2
        rw [u8_low m hlt, show bs pre ++ [u8v (UInt8.ofNat m)] = bs (pre ++ [UInt8.ofNat m]) by simp [bs]] at hown2
        have HP := Lib.hid (HF.out.push ((Chg.refl nowhere wr).alloc _) hchg2 hown2 (by rw [HF.out.len]; simp) (hA2.imp id fun h => ⟨_, h, by omega⟩))
        clear hown2 hchg2 hA2
        go_wp2_with fail
        go_ret
        refine ⟨A2, n1 + 1, c2, rfl, ?_⟩
        have := HENC.out
        rw [enc_small hlt] at this
        rw [← this]
        exact HP.out
      · have e1 : 128 ≤ (m : Int) := by omega
        go_wp2_with (at_builtin; refine wpList_append_one rfl (.tmp 13) (.tmp 18) elemB rfl (Nat.le_refl _) rfl (HF.out.own.alloc _) rfl (Rd.lit _ [_] _) rfl HB ?_)
        intro A2 c2 w2 hown2 hchg2 hA2
        rw [u8_or_128' m, show bs pre ++ [u8v (UInt8.ofNat (m % 128 + 128))] = bs (pre ++ [UInt8.ofNat (m % 128 + 128)]) by simp [bs]] at hown2
        have HP := Lib.hid (HF.out.push ((Chg.refl nowhere wr).alloc _) hchg2 hown2 (by rw [HF.out.len]; simp) (hA2.imp id fun h => ⟨_, h, by omega⟩))
        clear hown2 hchg2 hA2
        go_wp2_with fail
        have := HENC.out
        rw [enc_large hlt] at this
        exact ⟨⟨m / 128, A2, n1 + 1, c2, pre ++ [UInt8.ofNat (m % 128 + 128)], by omega, by go_num, rfl, HP.out, by rw [← this, List.append_assoc]; rfl⟩, by simp [intOf]; omega⟩
end Go.Proofs.YthcleccofccbdaaGreat
end
section
open Go Go.RowKit
namespace Go.Proofs.YthcleccofccbdaaGreat
set_option maxRecDepth 100000 in
set_option maxHeartbeats 400000 in
theorem refNums_calls (A : Option Addr) (n c : Nat) (vs : List Int) (w : World) (hr : Rd w A (is64 vs)) (hn : vs.length = n) (hx : n ≤ 1000000000) :
    Calls Tryz.prog 39 #[.slice A n c] w fun e w' => ∃ A' n' c', e = .returned (.slice A' n' c') ∧ Hid (Fresh w w' A' n' c' (encAll vs)) := by
  have HR := Lib.hid hr
  have HN := Lib.hid hn
  have hn9 : n ≤ 9223372036854775807 := by omega
  have HX := Lib.hid hx
  clear hr hn hx
  go_enter Tryz.func39, Tryz.ntmps39
  go_wp2_with fail
  go_loopw [3, 4] (fun u t wr => ∃ (k : Nat) (A1 : Option Addr) (n1 c1 : Nat), k ≤ n ∧ t = .int .i64 k ∧ u = .slice A1 n1 c1 ∧ Fresh w wr A1 n1 c1 (encAll (vs.take k))) (fun _ t _ => n - (intOf t).toNat)
  case atStart => exact ⟨0, none, 0, 0, Nat.zero_le _, rfl, rfl, Fresh.nil _⟩
  case round =>
    obtain ⟨k, A1, n1, c1, hk, rfl, rfl, hfr⟩ := hrel
    have HF := Lib.hid hfr
    clear hfr
    by_cases hlt : k < n
    · have e1 : (k : Int) < n := by omega
      have hkv : k < vs.length := by have := HN.out; omega
      obtain ⟨ad, rfl, hc⟩ := (HR.out.later HF.out.chg) k (.int .i64 vs[k]) (by simp [is64, hkv])
      have hsn := encAll_snoc (vs.take k) vs[k]
      rw [List.take_append_getElem hkv] at hsn
      have hl1 := encAll_len (vs.take k)
      rw [List.length_take] at hl1
      generalize vs[k] = v at hc hsn
      have HSN := Lib.hid hsn
      have HL1 := Lib.hid hl1
      clear hkv hsn hl1
      go_wp2_with fail
      refine (refNum_calls v _).mono ?_
      rintro e w1 ⟨A2, n2, c2, rfl, h2⟩
      have HM : Hid ((bs (enc (clampN v))).length = n2) := Lib.hid (by rw [bs_length]; exact h2.out.len.symm)
      have HB : Hid (n1 + n2 ≤ lim) := hid_lim (by
        have h3 := HF.out.len
        have h4 := h2.out.len
        have h5 := HL1.out
        have h6 := enc_len _ (clampN_le v)
        have h7 := HX.out
        omega)
      have HO : Hid (Own w1 5 1 A1 n1 c1 (bs (encAll (vs.take k)))) := Lib.hid (HF.out.own.chg h2.out.chg (fun _ _ h => h))
      go_wp2_with (at_builtin; refine wpList_append_many rfl (.tmp 11) (.tmp 16) elemB rfl (Nat.le_refl _) rfl HO.out rfl h2.out.rd HM (bs_one _) HB ?_)
      intro A3 c3 w3 hown3 hchg3 hA3
      rw [bs_append] at hown3
      have HP := Lib.hid (HF.out.push h2.out.chg hchg3 hown3 (by rw [HF.out.len, h2.out.len]; simp) (hA3.imp id fun h => ⟨_, h, h2.out.chg.size⟩))
      clear hown3 hchg3 hA3
      go_wp2_with fail
      exact ⟨⟨k + 1, A3, n1 + n2, c3, by omega, by go_num, rfl, by rw [HSN.out]; exact HP.out⟩, by simp [intOf]; omega⟩
    · have e1 : (n : Int) ≤ k := by omega
      go_wp2_with fail
      go_ret
      refine ⟨A1, n1, c1, rfl, ?_⟩
      have := HF.out
      rwa [List.take_of_length_le (by have := HN.out; omega)] at this
end Go.Proofs.YthcleccofccbdaaGreat
end
section
open Go Go.RowKit
namespace Go.Proofs.YthcleccofccbdaaGreat
set_option maxRecDepth 100000 in
set_option maxHeartbeats 400000 in
theorem refBytes_calls (A : Option Addr) (n c : Nat) (xs : List UInt8) (w : World) (hr : Rd w A (bs xs)) (hn : xs.length = n) (hx : n ≤ 1000000000) :
    Calls Tryz.prog 101 #[.slice A n c] w fun e w' => ∃ A' n' c', e = .returned (.slice A' n' c') ∧ Hid (Fresh w w' A' n' c' (encRow xs)) := by
  have HR := Lib.hid hr
  have HN := Lib.hid hn
  have hn9 : n ≤ 9223372036854775807 := by omega
  have HX := Lib.hid hx
  have HM : Hid ((bs xs).length = n) := Lib.hid (by rw [bs_length]; exact hn)
  clear hr hn hx
  go_enter Tryz.func101, Tryz.ntmps101
  go_wp2_with fail
  refine (refNum_calls (n : Int) _).mono ?_
  rintro e w1 ⟨A2, n2, c2, rfl, h2⟩
  have hcl : clampN (n : Int) = xs.length := by rw [HN.out]; exact clampN_nat n (by have := HX.out; omega)
  rw [hcl] at h2
  have HB : Hid (n2 + n ≤ lim) := hid_lim (by
    have h4 := h2.out.len
    have h6 := enc_len xs.length (by rw [HN.out]; have := HX.out; omega)
    have h7 := HX.out
    omega)
  clear hcl
  go_wp2_with (at_builtin; refine wpList_append_many rfl (.tmp 5) (.tmp 6) elemB rfl (Nat.le_refl _) rfl h2.out.own rfl (HR.out.later h2.out.chg) HM (bs_one _) HB ?_)
  intro A3 c3 w3 hown3 hchg3 hA3
  rw [bs_append] at hown3
  have HP := Lib.hid (h2.out.push (Chg.refl nowhere _) hchg3 hown3 (by rw [h2.out.len, ← HN.out]; simp) (hA3.imp id fun h => ⟨_, h, Nat.le_refl _⟩))
  clear hown3 hchg3 hA3
  go_wp2_with fail
  go_ret
  exact ⟨A3, n2 + n, c3, rfl, HP⟩
end Go.Proofs.YthcleccofccbdaaGreat
end
section
open Go Go.RowKit
namespace Go.Proofs.YthcleccofccbdaaGreat
section
variable {P : Program} {ops : Array Oper} {a : Act} {w : World} {dst : Option Tmp} {ty : TypeId} {pos : String} {after : Array Edge} {gd : Option (Nat × Bool)}
/-- an array within a block as a slice -/
theorem ev_sl_arrK {t e : TypeId} {x : Operand} {g k m : Nat} (hx : a.eval x = .pointer (some ⟨g, k, none⟩)) (hu : P.underlying t = some (.array m e)) (hs : (P.info? e).map (·.size) = some 1) :
    (execOp a.eval ⟨dst, .slice t x none none none, ty, pos, after, gd⟩).run P w = .ok (.value (.slice (some ⟨g, k, none⟩) m m)) w := by
  show ((Instr.sliceAt t (a.eval x) none none none) >>= fun v => pure (Next.value v)).run P w = _
  rw [hx]
  cases hq : P.info? e with
  | none => rw [hq] at hs; simp at hs
  | some i => simp [Instr.sliceAt, run_underlying hu, Instr.sureAddr, Instr.sliceBounds, sizeOf, typeInfo, hq, add_zero_spot]
end
theorem fresh_hoW {w0 w : World} {A : Option Addr} {n c : Nat} {xs : List UInt8} (h : Fresh w0 w A n c xs) : HO w 5 1 A n c (bs xs) := ⟨h.own⟩
end Go.Proofs.YthcleccofccbdaaGreat
end
section
open Go Go.RowKit
namespace Go.Proofs.YthcleccofccbdaaGreat
theorem encRow_le (l : List UInt8) (h : l.length ≤ 1000000000) : (encRow l).length ≤ l.length + 9 := by
  have h1 := encAll_len [(l.length : Int)]
  rw [encAll_one] at h1
  have h2 : clampN (l.length : Int) = l.length := by unfold clampN; omega
  rw [h2] at h1
  unfold encRow
  rw [List.length_append]
  simp at h1
  omega
instance (priority := 600) Sub.grewW (w0 w : World) (A A' : Option Addr) (T : Nat → Prop) [g : Grew w A A'] [s : Sub w0 (rowOf A) T] [n : SzLe w0 w] : Sub w0 (rowOf A') T := ⟨fun x hx ⟨ad, e, hk⟩ => by
  rcases g.out with h1 | h1
  · exact s.out x hx ⟨ad, by rw [← h1]; exact e, hk⟩
  · have h2 := n.out
    rw [h1] at e
    injection e with e
    subst e
    have h3 : w.heap.size = x := hk
    omega⟩
set_option maxRecDepth 100000 in
theorem rText_calls (s : ByteArray) (l : List UInt8) (hl : s.data.toList = l) (hx : l.length ≤ 1000000000) (w : World) :
    Calls Tryz.prog 38 #[.string s] w fun e w' => ∃ A n c, e = .returned (.slice A n c) ∧ Hid (Fresh w w' A n c (encRow l)) := by
  go_enter Tryz.func38, Tryz.ntmps38
  go_wp2_with ((with_reducible apply (wpl_strN (l := l))); (exact rfl); (exact hl); (exact Tryz.underlying9); (exact Tryz.underlying26); (exact Tryz.underlying5); intro cs wz _ _)
  refine (refBytes_calls (some ⟨w.heap.size, 0, none⟩) l.length cs l wz (inferInstance : HR wz (some ⟨w.heap.size, 0, none⟩) (bs l)).out rfl hx).mono ?_
  rintro e w5 ⟨A5, n5, c5, rfl, hF⟩
  have HF : Hid (Fresh w w5 A5 n5 c5 (encRow l)) := Lib.hid ⟨hF.out.own, hF.out.len, (stepN (w0 := w) (w := wz)).chg.trans hF.out.chg (fun _ _ h => h), fun ad e => Nat.le_trans (stepN (w0 := w) (w := wz)).chg.size (hF.out.new ad e)⟩
  clear hF
  go_wp2_with fail
  go_ret
  exact ⟨A5, n5, c5, rfl, HF⟩
end Go.Proofs.YthcleccofccbdaaGreat
end
section
open Go Go.RowKit
namespace Go.Proofs.YthcleccofccbdaaGreat
def flatH (l : List H32) : List UInt8 := l.flatMap (·.l)
theorem flatH_app (a b : List H32) : flatH (a ++ b) = flatH a ++ flatH b := by simp [flatH]
theorem flatH_take (l : List H32) (k : Nat) (h : k < l.length) : flatH (l.take (k + 1)) = flatH (l.take k) ++ (hget l k).l := by
  have e : l.take (k + 1) = l.take k ++ [hget l k] := by
    rw [List.take_add_one, List.getElem?_eq_getElem h]
    simp [hget, List.getD_eq_getElem?_getD, h]
  rw [e, flatH_app]
  simp [flatH]
def keyB (l : List H32) (need : Int) : List UInt8 := encAll [(l.length : Int)] ++ flatH l ++ encAll [need]
set_option maxRecDepth 100000 in
set_option maxHeartbeats 1600000 in
theorem rKeys_calls {A : Option Addr} {n c : Nat} {l : List H32} (need : Int) {w : World} [hr : HR w A (cellsOf l)] (hl : l.length = n) (hmax : n ≤ 1000) :
    Calls Tryz.prog 102 #[.agg #[.slice A n c, .int .i64 need]] w fun e w' => ∃ A' n' c', e = .returned (.slice A' n' c') ∧ Step nowhere w w' ∧ HO w' 5 1 A' n' c' (bs (keyB l need)) ∧ NewA w A' ∧ n' ≤ 18 + 32 * n := by
  have HLL := Lib.hid hl
  have HE1 : Hid ((encAll [(n : Int)]).length ≤ 9) := Lib.hid (encAll_len [(n : Int)])
  have HE2 : Hid ((encAll [need]).length ≤ 9) := Lib.hid (encAll_len [need])
  have HKB : Hid (keyB l need = encAll [(n : Int)] ++ flatH l ++ encAll [need]) := Lib.hid (by rw [keyB, hl])
  clear hl
  go_enter Tryz.func102, Tryz.ntmps102
  go_wp2_with (first | ((with_reducible apply (wpl_box_agg (dst := some 1))); (exact rfl); intro zs wzs _ _ _) | ((with_reducible apply wpl_loadcellN); (exact rfl); infer_instance; (exact rfl)))
  have hs5 : HB wzs zs 42 #[.slice A n c, .int .i64 need] := inferInstance
  refine (refNum_calls n _).mono ?_
  rintro e w6 ⟨A6, n6, c6, rfl, hF⟩
  have st6 : Step nowhere wzs w6 := ⟨hF.out.chg⟩
  have n5 : Nw w wzs := inferInstance
  have hA6 : NewA w A6 := ⟨fun ad e => Nat.le_trans n5.out.size (hF.out.new ad e)⟩
  have ho6 : HO w6 5 1 A6 n6 c6 (bs (encAll [(n : Int)] ++ flatH (l.take 0))) := by
    have h1 := fresh_hoW hF.out
    rw [← encAll_one] at h1
    simpa [flatH] using h1
  have hn6 : n6 ≤ 9 := by
    have h1 := hF.out.len
    rw [← encAll_one] at h1
    have := HE1.out
    omega
  have hs6 : HB w6 zs 42 #[.slice A n c, .int .i64 need] := inferInstance
  have os : OffB (rowOf A6) zs := ⟨fun ⟨ad, e, hk⟩ => by
    have h1 := hF.out.new ad e
    have h2 := hs5.out.lt
    omega⟩
  clear hF
  go_wp2_with fail
  go_loopw [3, 4] (fun bv iv wr => ∃ (k : Nat) (A1 : Option Addr) (n1 c1 : Nat), k ≤ n ∧ iv = .int .i64 (k : Int) ∧ bv = .slice A1 n1 c1 ∧ Step nowhere w wr ∧ HO wr 5 1 A1 n1 c1 (bs (encAll [(n : Int)] ++ flatH (l.take k))) ∧ NewA w A1 ∧ OffB (rowOf A1) zs ∧ n1 ≤ 9 + 32 * k ∧ HB wr zs 42 #[.slice A n c, .int .i64 need]) (fun _ iv _ => n - (intOf iv).toNat)
  case atStart => exact ⟨0, A6, n6, c6, Nat.zero_le _, rfl, rfl, stepN, ho6, hA6, os, by omega, hs6⟩
  case round =>
    clear ho6 hA6 os hn6 hs6 st6 n5 hs5
    obtain ⟨k, A1, n1, c1, hk, rfl, rfl, _, hO, hA1, os, hn1, hs⟩ := hrel
    have st : Step nowhere w wr := inferInstance
    have n1' : Nw w wr := ⟨st.chg⟩
    by_cases hlt : k < n
    · have hltI : (k : Int) < n := by omega
      have hln := HLL.out
      have hkl : k < l.length := by omega
      have hF : Fact' (k < l.length) := ⟨hkl⟩
      have htk := flatH_take l k hkl
      have HTK : Hid (encAll [(n : Int)] ++ flatH (l.take k) ++ (hget l k).l = encAll [(n : Int)] ++ flatH (l.take (k + 1))) := Lib.hid (by rw [htk, List.append_assoc])
      clear htk
      go_wp2_with (first | ((with_reducible apply wpl_loadcellN); (exact rfl); infer_instance; (exact rfl)) | ((with_reducible apply wpl_indexH); (exact rfl); (exact rfl); infer_instance; infer_instance; (first | (with_reducible assumption) | omega); (first | (with_reducible assumption) | omega); (first | (with_reducible assumption) | omega)) | ((with_reducible apply wpl_sliceH); (exact rfl); (exact Tryz.underlying47); (kernel_rfl); infer_instance; (first | (with_reducible assumption) | omega)) | ((with_reducible apply wpl_appendB); (exact rfl); (exact rfl); infer_instance; (first | exact inferInstance | exact ⟨Own.nil _ _ _⟩); infer_instance; (first | (with_reducible assumption) | (with_reducible exact H32.len _) | (focus (simp; done)) | omega); (first | (with_reducible assumption) | omega); intro A' c' wa _ _ _ hcap))
      refine ⟨⟨k + 1, A', n1 + 32, c', by omega, by go_num, rfl, stepN, ?_, inferInstance, inferInstance, by omega, inferInstance⟩, by simp [intOf]; omega⟩
      rw [← HTK.out]
      infer_instance
    · have hltI : ¬ (k : Int) < n := by omega
      have hkn : k = n := by omega
      have hfin : l.take k = l := List.take_of_length_le (by have := HLL.out; omega)
      rw [hfin] at hO
      clear hkn hfin
      go_wp2_with (first | ((with_reducible apply wpl_loadcellN); (exact rfl); infer_instance; (exact rfl)))
      refine (refNum_calls need _).mono ?_
      rintro e w7 ⟨A7, n7, c7, rfl, hF⟩
      have st7 : Step nowhere _ w7 := ⟨hF.out.chg⟩
      have hr7 : HR w7 A7 (bs (encAll [need])) := ⟨by rw [encAll_one]; exact hF.out.own.rd⟩
      have hl7 : (encAll [need]).length = n7 := by rw [encAll_one]; exact hF.out.len.symm
      have hn7 : n7 ≤ 9 := by
        have := HE2.out
        omega
      clear hF
      go_wp2_with (first | ((with_reducible apply wpl_appendB); (exact rfl); (exact rfl); infer_instance; (first | exact inferInstance | exact ⟨Own.nil _ _ _⟩); infer_instance; (first | (with_reducible assumption) | (with_reducible exact H32.len _) | (focus (simp; done)) | omega); (first | (with_reducible assumption) | omega); intro A' c' wa _ _ _ hcap))
      go_ret
      refine ⟨A', n1 + n7, c', rfl, stepN, ?_, inferInstance, by omega⟩
      rw [HKB.out]
      infer_instance
end Go.Proofs.YthcleccofccbdaaGreat
end
section
open Go Go.RowKit
namespace Go.Proofs.YthcleccofccbdaaGreat
/-- so many digests taken -/
def hS (s : RS) : Nat → RS
  | 0 => s
  | k + 1 => ((hS s k).raw 32).2
def hN (s : RS) : Nat → List H32
  | 0 => []
  | k + 1 => hN s k ++ [(hS s k).hsh]
theorem hN_len (s : RS) : ∀ k, (hN s k).length = k
  | 0 => rfl
  | k + 1 => by rw [hN, List.length_append, hN_len s k]; rfl
theorem hS_le (s : RS) : ∀ k, (hS s k).b.length ≤ s.b.length
  | 0 => Nat.le_refl _
  | k + 1 => Nat.le_trans ((hS s k).raw_l 32) (hS_le s k)
theorem flatH_snoc (l : List H32) (h : H32) : flatH (l ++ [h]) = flatH l ++ h.l := by simp [flatH]
theorem hS_back (s : RS) : ∀ k, (hS s k).e = false → s.e = false ∧ s.b = flatH (hN s k) ++ (hS s k).b
  | 0, h => ⟨h, rfl⟩
  | k + 1, h => by
    obtain ⟨h1, h2⟩ := hsh_back (s := hS s k) h
    obtain ⟨h3, h4⟩ := hS_back s k h1
    refine ⟨h3, ?_⟩
    rw [hN, flatH_snoc, List.append_assoc]
    show s.b = flatH (hN s k) ++ ((hS s k).hsh.l ++ ((hS s k).raw 32).2.b)
    rw [← h2]
    exact h4
theorem hS_mono (s : RS) (j : Nat) : ∀ k, (hS s k).e = false → j ≤ k → (hS s j).e = false
  | 0, h, hj => by
    obtain rfl : j = 0 := by omega
    exact h
  | k + 1, h, hj => by
    by_cases e : j = k + 1
    · subst e; exact h
    · exact hS_mono s j k (hsh_back (s := hS s k) h).1 (by omega)
/-- keys taken: the program's way -/
def kL (s : RS) : List H32 := if 4 < s.num.1 then [] else hN s.num.2 s.num.1
def kM (s : RS) : RS := if 4 < s.num.1 then RS.bad else hS s.num.2 s.num.1
def kD (s : RS) : Nat := (kM s).num.1
def kR (s : RS) : RS := (kM s).num.2
theorem kM_le (s : RS) : (kM s).b.length ≤ s.b.length := by
  unfold kM
  split
  · exact Nat.zero_le _
  · exact Nat.le_trans (hS_le _ _) (RS.num_le s)
theorem kR_le (s : RS) : (kR s).b.length ≤ s.b.length := Nat.le_trans (RS.num_le _) (kM_le s)
/-- the reference's way -/
def GotQ (s : RS) (l : List H32) (need : Nat) (s' : RS) : Prop := ∃ j, j ≤ 5 ∧ j ≤ s.num.1 ∧ (j = s.num.1 ∨ j = 5 ∨ (hS s.num.2 j).e = true) ∧ l = hN s.num.2 j ∧ need = (hS s.num.2 j).num.1 ∧ s' = (hS s.num.2 j).num.2
theorem GotQ.same {s s' : RS} {l : List H32} {need : Nat} (h : GotQ s l need s') (he : s'.e = false) (hl : l.length ≤ 4) : l = kL s ∧ need = kD s ∧ s' = kR s := by
  obtain ⟨j, h5, hn, hj, rfl, rfl, rfl⟩ := h
  have h1 := (num_back he).1
  rw [hN_len] at hl
  have e : j = s.num.1 := by
    rcases hj with h | h | h
    · exact h
    · omega
    · rw [h1] at h; cases h
  have h4 : ¬ 4 < s.num.1 := by omega
  rw [kL, kD, kR, kM, if_neg h4, if_neg h4, ← e]
  exact ⟨rfl, rfl, rfl⟩
theorem kM_e {s : RS} (h : (kR s).e = false) : (kM s).e = false := (num_back h).1
theorem kM_n {s : RS} (h : (kM s).e = false) : ¬ 4 < s.num.1 := fun h4 => by
  rw [kM, if_pos h4] at h
  cases h
theorem GotQ.prog {s s' : RS} {l : List H32} {need : Nat} (h : GotQ s l need s') (he : (kR s).e = false) : l = kL s ∧ need = kD s ∧ s' = kR s := by
  obtain ⟨j, h5, hn, hj, rfl, rfl, rfl⟩ := h
  have h1 := kM_e he
  have h4 := kM_n h1
  rw [kM, if_neg h4] at h1
  have e : j = s.num.1 := by
    rcases hj with h | h | h
    · exact h
    · omega
    · rw [hS_mono _ _ _ h1 hn] at h; cases h
  rw [kL, kD, kR, kM, if_neg h4, if_neg h4, ← e]
  exact ⟨rfl, rfl, rfl⟩
theorem key_back {s : RS} (he : (kR s).e = false) : s.e = false ∧ s.b = keyB (kL s) (kD s) ++ (kR s).b := by
  have h1 := kM_e he
  have h4 := kM_n h1
  obtain ⟨a1, a2, a3⟩ := num_back (s := kM s) he
  have e1 : kM s = hS s.num.2 s.num.1 := by rw [kM, if_neg h4]
  rw [e1] at h1
  obtain ⟨b1, b2⟩ := hS_back s.num.2 s.num.1 h1
  obtain ⟨c1, c2, c3⟩ := num_back (s := s) b1
  refine ⟨c1, ?_⟩
  have e2 : kL s = hN s.num.2 s.num.1 := by rw [kL, if_neg h4]
  have e3 : encAll [(kD s : Int)] = enc (kD s) := encN a3
  have e4 : encAll [((kL s).length : Int)] = enc s.num.1 := by rw [e2, hN_len]; exact encN c3
  rw [keyB, e4, e3, c2, List.append_assoc, List.append_assoc]
  congr 1
  rw [b2, ← e2, ← e1]
  congr 1
/-- so many keys taken -/
def kAt (s : RS) : Nat → RS
  | 0 => s
  | k + 1 => kR (kAt s k)
def kK (s : RS) : Nat → List (List H32 × Int)
  | 0 => []
  | k + 1 => kK s k ++ [(kL (kAt s k), (kD (kAt s k) : Int))]
def GotN : Nat → RS → List (List H32 × Int) → RS → Prop
  | 0, s, K, s' => K = [] ∧ s' = s
  | m + 1, s, K, s' => ∃ K' t l need, GotN m s K' t ∧ GotQ t l need s' ∧ K = K' ++ [(l, (need : Int))]
theorem GotN.same {s : RS} : ∀ (m : Nat) {K : List (List H32 × Int)} {s' : RS}, GotN m s K s' → s'.e = false → (∀ k ∈ K, k.1.length ≤ 4) → K = kK s m ∧ s' = kAt s m
  | 0, K, s', h, he, hk => h
  | m + 1, K, s', h, he, hk => by
    obtain ⟨K', t, l, need, h1, h2, rfl⟩ := h
    obtain ⟨rfl, rfl, rfl⟩ := h2.same he (hk (l, (need : Int)) (by simp))
    obtain ⟨rfl, rfl⟩ := GotN.same m h1 (key_back he).1 (fun k hk' => hk k (by simp [hk']))
    exact ⟨rfl, rfl⟩
theorem GotN.prog {s : RS} : ∀ (m : Nat) {K : List (List H32 × Int)} {s' : RS}, GotN m s K s' → (kAt s m).e = false → K = kK s m ∧ s' = kAt s m
  | 0, K, s', h, he => h
  | m + 1, K, s', h, he => by
    obtain ⟨K', t, l, need, h1, h2, rfl⟩ := h
    obtain ⟨rfl, rfl⟩ := GotN.prog m h1 (key_back he).1
    obtain ⟨rfl, rfl, rfl⟩ := h2.prog he
    exact ⟨rfl, rfl⟩
def keysB (K : List (List H32 × Int)) : List UInt8 := K.flatMap fun k => keyB k.1 k.2
def rtV (b : List UInt8) : Nat := (kindS 1 b).num.1
def rtX (b : List UInt8) : Nat := ((kindS 1 b).at 1).num.1
def rtS (b : List UInt8) : RS := (kindS 1 b).at 2
def rootB (v e : Int) (K : List (List H32 × Int)) : Bool := verB v && numB e && K.all fun k => isB k.1 k.2
/-- a root's bytes -/
def rootE (v e : Int) (K : List (List H32 × Int)) : List UInt8 := encAll [1] ++ (encAll [v, e] ++ keysB K)
def rtOk (b : List UInt8) : Bool := wholeB (kAt (rtS b) 4) && rootB (rtV b) (rtX b) (kK (rtS b) 4)
end Go.Proofs.YthcleccofccbdaaGreat
end
