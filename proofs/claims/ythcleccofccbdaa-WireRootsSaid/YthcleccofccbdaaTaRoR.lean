/- WtA, WtB, WzA, WzB, WtC, WvA, WvB, WyM, RoR -/
import Derived.Test.YthcleccofccbdaaTaWsB
import Derived.Test.YthcleccofccbdaaTaRdD
import Derived.Test.YthcleccofccbdaaTaWuC
import Derived.Test.YthcleccofccbdaaTaOcRfC
section
open Go Go.RowKit
namespace Go.Proofs.Ythcleccofccbdaa
instance : ZeroT Try.prog 78 (u8s zeroH.l) := ⟨.agg (u8s zeroH.l), fun _ => by kernel_rfl, rfl⟩
def RS.hsh (s : RS) : H32 := if h : (s.raw 32).1.length = 32 then ⟨(s.raw 32).1, h⟩ else zeroH
theorem RS.raw_c (s : RS) : (s.raw 32).1.length = 32 ∨ (s.raw 32).1 = [] := by
  unfold RS.raw
  split
  · exact .inr rfl
  · rename_i h
    refine .inl ?_
    show (s.b.take (32 : Int).toNat).length = 32
    rw [List.length_take]
    have : ¬ (s.b.length : Int) < 32 := fun h2 => h (.inr (.inr h2))
    omega
theorem RS.raw_l (s : RS) (i : Int) : (s.raw i).2.b.length ≤ s.b.length := by
  unfold RS.raw
  split
  · exact Nat.zero_le _
  · show (s.b.drop i.toNat).length ≤ _
    rw [List.length_drop]; omega
theorem RS.hsh_copy (s : RS) (m : Nat) (hm : m = (s.raw 32).1.length) : zeroH.l.take 0 ++ (s.raw 32).1 ++ zeroH.l.drop (0 + m) = s.hsh.l := by
  subst hm
  rcases s.raw_c with h | h
  · rw [RS.hsh, dif_pos h, h]
    show [] ++ (s.raw 32).1 ++ zeroH.l.drop 32 = _
    rw [show zeroH.l.drop 32 = [] from rfl, List.append_nil]
    rfl
  · rw [RS.hsh, dif_neg (by rw [h]; decide), h]
    rfl
section
variable {P : Program} {ops : Array Oper} {a : Act} {w : World} {dst : Option Tmp} {ty : TypeId} {pos : String} {after : Array Edge} {gd : Option (Nat × Bool)}
/-- an array as a slice -/
theorem ev_sl_arr0 {t e : TypeId} {x : Operand} {g m : Nat} (hx : a.eval x = .pointer (some ⟨g, 0, none⟩)) (hu : P.underlying t = some (.array m e)) (hs : (P.info? e).map (·.size) = some 1) :
    (execOp a.eval ⟨dst, .slice t x none none none, ty, pos, after, gd⟩).run P w = .ok (.value (.slice (some ⟨g, 0, none⟩) m m)) w := by
  show ((Instr.sliceAt t (a.eval x) none none none) >>= fun v => pure (Next.value v)).run P w = _
  rw [hx]
  cases hq : P.info? e with
  | none => rw [hq] at hs; simp at hs
  | some i => simp [Instr.sliceAt, run_underlying hu, Instr.sureAddr, Instr.sliceBounds, sizeOf, typeInfo, hq, add_zero_spot]
end
def gz2 (g z : Nat) : Nat → Prop := fun x => x = g ∨ x = z
instance (w : World) (g z : Nat) : Sub w (only g) (gz2 g z) := ⟨fun _ _ h => .inl h⟩
instance (w : World) (g z : Nat) : Sub w (only z) (gz2 g z) := ⟨fun _ _ h => .inr h⟩
instance (w : World) (g z : Nat) : Into w (only g) (gz2 g z) := ⟨fun _ _ h => .inl h⟩
instance (w : World) (g z : Nat) : Into w (only z) (gz2 g z) := ⟨fun _ _ h => .inr h⟩
set_option maxRecDepth 100000 in
set_option maxHeartbeats 1600000 in
theorem takeHash_calls {g d : Nat} {s : RS} {w : World} (hw : RdrAt w g d s) (hl : s.b.length ≤ 1000000000) :
    Calls Try.prog 172 #[.pointer (some ⟨g, 0, none⟩)] w fun e w' => e = .returned (.agg (u8s s.hsh.l)) ∧ Step (only g) w w' ∧ RdrAt w' g d (s.raw 32).2 := by
  have HW0 := Lib.hid hw
  have HL := Lib.hid hl
  have hgl := hw.lt
  have hdl := hw.dlt
  clear hw hl
  go_enter Try.func172, Try.ntmps172
  go_wp2_with (first | ((with_reducible apply (wpl_alloc (dst := some 2))); intro zo wzo _ _ _) | ((with_reducible apply (wpl_alloc (dst := some 3))); intro zh wzh _ _ _) | ((with_reducible apply wpl_alloc); intro z wz _ _ _) | ((with_reducible apply wpl_loadrow); (exact rfl); infer_instance; infer_instance; (first | (with_reducible assumption) | (with_reducible exact H32.size _) | kernel_rfl)) | ((with_reducible apply wpl_loadcellN); (exact rfl); infer_instance; (exact rfl)) | ((with_reducible apply wpl_storerow); (exact rfl); (exact rfl); infer_instance; infer_instance; (first | (with_reducible assumption) | (with_reducible exact H32.size _) | kernel_rfl); (first | (with_reducible assumption) | (with_reducible exact H32.size _) | kernel_rfl); (first | (with_reducible exact u8s_one _) | (with_reducible assumption) | kernel_rfl); intro ws _ _) | ((with_reducible apply wpl_storecell); (exact rfl); (exact rfl); infer_instance; (exact rfl); (first | (with_reducible assumption) | omega | (focus (simp; done)) | (focus (simp; omega; done)) | decide); intro ws _ _))
  have hzo : w.heap.size ≤ zo := Nat.le_of_eq (inferInstance : Born w zo).eq.symm
  have hzh : w.heap.size ≤ zh := by
    have e1 := (inferInstance : Born wzo zh).eq
    have e2 := (inferInstance : SzLe w wzo).out
    omega
  have hb0 : HB wzh zh 78 (u8s zeroH.l) := inferInstance
  have o1 : OffB (only g) zh := ⟨fun e => by have e' : zh = g := e; omega⟩
  have o2 : OffB (only g) zo := ⟨fun e => by have e' : zo = g := e; omega⟩
  have hq0 : zeroH.l.length = 32 := rfl
  refine wp_region_N ((gz2 g zh)) (by kernel_rfl) (fun wd _ _ => ?_)
  refine' takeH (i := 0) (v := _) rfl (by kernel_rfl) (by kernel_rfl) (by kernel_rfl) (fun _ _ _ h => h) (yields_of (by rfl) (fun w' _ => ?_)) inferInstance ?_
  rotate_left
  · (first | ((with_reducible apply ev_sl_arr0); (exact rfl); (exact Try.underlying78); (kernel_rfl)) | ((with_reducible apply ev_sl_lh); (exact rfl); (exact rfl); (exact rfl); infer_instance; (first | (with_reducible assumption) | omega); (first | (with_reducible assumption) | omega)) | ((with_reducible apply ev_sl_h); (exact rfl); (exact rfl); infer_instance; (first | (with_reducible assumption) | omega)) | ((with_reducible apply ev_sl_l); (exact rfl); (exact rfl); infer_instance; (first | (with_reducible assumption) | omega)) | (go_simp; try with_reducible rfl))
  try simp only [Act.put, sA]; try simp only [sB, sC]
  refine' takeH (i := 1) (v := _) rfl (by kernel_rfl) (by kernel_rfl) (by kernel_rfl) (fun _ _ _ h => h) (yields_of (by rfl) (fun w' _ => ?_)) inferInstance ?_
  rotate_left
  · (go_simp; try with_reducible rfl)
  try simp only [Act.put, sA]; try simp only [sB, sC]
  refine goH (i := 2) (by kernel_rfl) rfl (fun K_ hK_ => ?_)
  go_simp
  refine (Raw_calls g d s 32 wd (HW0.out.chg (stepN (w0 := w) (w := wd)).chg (fun h => h) (fun h => h)) (by have := HL.out; omega)).mono ?_
  rintro e w5 ⟨A5, n5, c5, rfl, hn5, ho5, h5, cc5, hA5⟩
  have st5 : Step (only g) wd w5 := ⟨cc5.out⟩
  have hr5 : HR w5 A5 (bs (s.raw 32).1) := ⟨ho5.out.rd⟩
  have hle5 : n5 ≤ 32 := by
    have := hn5.out
    rcases s.raw_c with h | h
    · omega
    · rw [h] at this; simp at this; omega
  have hfit5 : 0 + n5 ≤ zeroH.l.length := by omega
  refine hK_.out _ _ inferInstance (fun _ => ?_)
  clear hK_ K_
  try simp only [Act.put, sA]; try simp only [sB, sC]
  refine goH (i := 3) (by kernel_rfl) rfl (fun K_ hK_ => ?_)
  rw [if_pos (by kernel_rfl)]
  refine wpr_of_list ?_
  (first | ((with_reducible apply wpl_copy); (exact Try.underlying28); (kernel_rfl); (exact rfl); (exact rfl); infer_instance; (exact hr5); (exact hn5.out.symm); (exact hle5); (exact hfit5); intro wc _ hbc) | ((with_reducible apply wpl_copy); (exact Try.underlying28); (kernel_rfl); (exact rfl); (exact rfl); infer_instance; infer_instance; (first | (with_reducible assumption) | (with_reducible exact H32.len _) | (focus (simp; done))); (first | (with_reducible assumption) | omega); (first | (with_reducible assumption) | omega | (focus (simp; done)) | (focus (simp; omega; done)) | decide); intro wc _ _))
  refine wpList_nil ?_
  unfold onlyN
  refine hK_.out _ _ inferInstance (fun _ => ?_)
  clear hK_ K_
  try simp only [Act.put, sA]; try simp only [sB, sC]
  refine wpAnyH_done (by kernel_rfl) ?_ _
  have hnx := s.hsh_copy n5 hn5.out
  rw [hnx] at hbc
  have hH : HB wc zh 78 (u8s s.hsh.l) := hbc
  have h9 : RdrAt wc g d (s.raw 32).2 := h5.out.chg2 (inferInstance : Step (only zh) w5 wc).chg (fun e => by have e' : g = zh := e; omega) (fun hne e => by
    have e' : d = zh := e
    have := hdl (fun h0 => hne (List.eq_nil_of_length_eq_zero (by have := s.raw_l 32; rw [h0] at this; simpa using this)))
    omega)
  have HR9 := Lib.hid h9
  have hlen9 : (u8s s.hsh.l).size = 32 := H32.size _
  clear h9 hnx h5
  go_wp2_with (first | ((with_reducible apply wpl_alloc); intro z wz _ _ _) | ((with_reducible apply wpl_loadrow); (exact rfl); infer_instance; infer_instance; (first | (with_reducible assumption) | (with_reducible exact H32.size _) | kernel_rfl)) | ((with_reducible apply wpl_loadcellN); (exact rfl); infer_instance; (exact rfl)) | ((with_reducible apply wpl_storerow); (exact rfl); (exact rfl); infer_instance; infer_instance; (first | (with_reducible assumption) | (with_reducible exact H32.size _) | kernel_rfl); (first | (with_reducible assumption) | (with_reducible exact H32.size _) | kernel_rfl); (first | (with_reducible exact u8s_one _) | (with_reducible assumption) | kernel_rfl); intro ws _ _) | ((with_reducible apply wpl_storecell); (exact rfl); (exact rfl); infer_instance; (exact rfl); (first | (with_reducible assumption) | omega | (focus (simp; done)) | (focus (simp; omega; done)) | decide); intro ws _ _))
  refine ret_row rfl rfl (n := 32) (H32.size _) rfl ⟨rfl, stepC, ?_⟩
  exact HR9.out.chg2 (inferInstance : Ch (only zo) wc ws).out (fun e => by have e' : g = zo := e; omega) (fun hne e => by
    have e' : d = zo := e
    have := hdl (fun h0 => hne (List.eq_nil_of_length_eq_zero (by have := s.raw_l 32; rw [h0] at this; simpa using this)))
    omega)
end Go.Proofs.Ythcleccofccbdaa
end
section
open Go Go.RowKit
namespace Go.Proofs.Ythcleccofccbdaa
instance : ZeroT Try.prog 111 (timL 0 0 0 zeroH).toArray := ⟨.agg (timL 0 0 0 zeroH).toArray, fun _ => by kernel_rfl, rfl⟩
section
variable {P : Program} {ops : Array Oper} {rest : List Oper} {a : Act} {w : World} {Q : Exit → Act → World → Prop} {dst : Option Tmp} {ty : TypeId} {pos : String} {after : Array Edge}
/-- a part of a block written, whole -/
theorem wpl_storepart {t : TypeId} {x y : Operand} {g k n : Nat} {vs : Array Value} (hx : a.eval x = .pointer (some ⟨g, k, none⟩)) (hy : a.eval y = .agg vs) {tb : TypeId} {cs : Array Value} (hb : HB w g tb cs) (ht : RowT P t n) (hn : vs.size = n) (hn0 : 0 < n) (hk : k + n ≤ cs.size) (hone : vs.all (·.oneCell') = true) {cs' : Array Value} (hcs : cs.toList.take k ++ vs.toList ++ cs.toList.drop (k + n) = cs'.toList)
    (h : ∀ w', Step (only g) w w' → HB w' g tb cs' → wpList P ops Q rest (a.put dst undef) w') : wpList P ops Q (⟨dst, .store t x y, ty, pos, after, none⟩ :: rest) a w := by
  have ho : Own w tb cs.size (some ⟨g, 0, none⟩) 1 1 cs.toList :=
    Own.of_blk hb.out (Nat.le_refl _) (by decide) (by simp) (by rw [Nat.one_mul, List.take_of_length_le (by simp)])
  obtain ⟨g', hA, h1, h2, h3⟩ := own_setCells ho (k := k) (cs := vs.toList) (m := n) (by simpa using hn) (by simpa using hk) hn0
  obtain rfl : g' = g := by injection hA with hA; injection hA with hA; exact hA.symm
  rw [hcs] at h2
  refine wpl_of_unit rfl (w' := w.setCells g' k vs.toList) ?_ (h _ ⟨⟨h3.os, h3.tape, h3.output, h3.size, fun x hx hn => h3.block x hx (fun ⟨ad, e, e2⟩ => hn (by injection e with e; subst e; exact e2.symm))⟩⟩ ⟨?_⟩)
  · show ((Instr.storeAt t (a.eval x) (a.eval y)) >>= fun _ => pure Next.skip).run P w = _
    rw [hx, hy, Sem.run_bind, run_storeAt_mid (P := P) w g' k t vs (by rw [hn]; exact h1) (by rw [hn]; exact ht.size) hone]
    rfl
  · have hl2 : cs'.size = cs.size := by
      have := congrArg List.length hcs
      simp at this
      omega
    rcases h2.form with ⟨hn, _⟩ | ⟨g3, cur, e, hb2, _, _, hsz, htk⟩
    · cases hn
    · injection e with e
      injection e with e
      subst e
      have : cur = cs' := by
        apply Array.ext'
        rw [List.take_of_length_le (by rw [Array.length_toList, hsz]; exact Nat.le_refl _)] at htk
        exact htk
      rw [← this]
      exact hb2
end
/-- the numbers of a time, and its digest, as they are taken -/
def tV (s : RS) : Nat := s.num.1
def tE (s : RS) : Nat := (s.at 1).num.1
def tS (s : RS) : Nat := (s.at 2).num.1
def tH (s : RS) : H32 := (s.at 3).hsh
def tR (s : RS) : RS := ((s.at 3).raw 32).2
end Go.Proofs.Ythcleccofccbdaa
end
section
open Go Go.RowKit
namespace Go.Proofs.Ythcleccofccbdaa
section
variable {P : Program} {ops : Array Oper} {a : Act} {w : World} {dst : Option Tmp} {ty : TypeId} {pos : String} {after : Array Edge} {gd : Option (Nat × Bool)}
end
theorem fresh_hoW {w0 w : World} {A : Option Addr} {n c : Nat} {xs : List UInt8} (h : Fresh w0 w A n c xs) : HO w 5 1 A n c (bs xs) := ⟨h.own⟩
end Go.Proofs.Ythcleccofccbdaa
end
section
open Go Go.RowKit
namespace Go.Proofs.Ythcleccofccbdaa
instance (priority := 600) Sub.grewW (w0 w : World) (A A' : Option Addr) (T : Nat → Prop) [g : Grew w A A'] [s : Sub w0 (rowOf A) T] [n : SzLe w0 w] : Sub w0 (rowOf A') T := ⟨fun x hx ⟨ad, e, hk⟩ => by
  rcases g.out with h1 | h1
  · exact s.out x hx ⟨ad, by rw [← h1]; exact e, hk⟩
  · have h2 := n.out
    rw [h1] at e
    injection e with e
    subst e
    have h3 : w.heap.size = x := hk
    omega⟩
end Go.Proofs.Ythcleccofccbdaa
end
section
open Go Go.RowKit
namespace Go.Proofs.Ythcleccofccbdaa
/-- what is left behind the kind -/
def kindS (kind : Nat) (b : List UInt8) : RS := if (⟨b, false⟩ : RS).num.1 = kind then (⟨b, false⟩ : RS).num.2 else RS.bad
theorem kindS_le (kind : Nat) (b : List UInt8) : (kindS kind b).b.length ≤ b.length := by
  unfold kindS
  split
  · exact RS.num_le ⟨b, false⟩
  · exact Nat.zero_le _
def wholeB (s : RS) : Bool := !s.e && decide (s.b = [])
def tOk (b : List UInt8) : Bool := wholeB (tR (kindS 2 b)) && timB (tV (kindS 2 b)) (tE (kindS 2 b)) (tS (kindS 2 b))
/-- what is decoded -/
def timD (b : List UInt8) : Array Value := (timL (tV (kindS 2 b)) (tE (kindS 2 b)) (tS (kindS 2 b)) (tH (kindS 2 b))).toArray
def DecT (b : List UInt8) (w : World) : Ending → World → Prop := fun e w' => Step nowhere w w' ∧ e = .returned (if tOk b then .tuple #[.agg (timD b), .int .i64 0] else .tuple #[.agg (timL 0 0 0 zeroH).toArray, .int .i64 2])
end Go.Proofs.Ythcleccofccbdaa
end
section
open Go Go.RowKit
namespace Go.Proofs.Ythcleccofccbdaa
/-- the parts of a report, as they are taken -/
def rU (s : RS) : List UInt8 := s.row.1
def rN (s : RS) : List UInt8 := s.row.2.row.1
def rS2 (s : RS) : RS := s.row.2.row.2
def rH (s : RS) : H32 := (rS2 s).hsh
def rS3 (s : RS) : RS := ((rS2 s).raw 32).2
def rC (s : RS) : Nat := (rS3 s).num.1
def rK (s : RS) : Nat := ((rS3 s).at 1).num.1
def rR (s : RS) : RS := (rS3 s).at 2
theorem ne_of_le {a b : List UInt8} (h : a.length ≤ b.length) (ha : a ≠ []) : b ≠ [] := fun hb => ha (List.eq_nil_of_length_eq_zero (by rw [hb] at h; simpa using h))
end Go.Proofs.Ythcleccofccbdaa
end
section
open Go Go.RowKit
namespace Go.Proofs.Ythcleccofccbdaa
def rOk (b : List UInt8) : Bool := wholeB (rR (kindS 5 b)) && repB (rU (kindS 5 b)) (rN (kindS 5 b)) (rC (kindS 5 b)) (rK (kindS 5 b))
/-- what is decoded -/
def repD (b : List UInt8) : Array Value := (repL (strL (rU (kindS 5 b))) (strL (rN (kindS 5 b))) (rH (kindS 5 b)) (rC (kindS 5 b)) (rK (kindS 5 b))).toArray
def DecR (b : List UInt8) (w : World) : Ending → World → Prop := fun e w' => Step nowhere w w' ∧ e = .returned (if rOk b then .tuple #[.agg (repD b), .int .i64 0] else .tuple #[.agg (repL ⟨#[]⟩ ⟨#[]⟩ zeroH 0 0).toArray, .int .i64 2])
end Go.Proofs.Ythcleccofccbdaa
end
section
open Go Go.RowKit
namespace Go.Proofs.Ythcleccofccbdaa
theorem ofNat_toNat (c : UInt8) (n : Nat) (h : n = c.toNat) : UInt8.ofNat n = c := by subst h; exact UInt8.ofNat_toNat
theorem parse_back : ∀ (b : List UInt8) (i acc N : Nat) (r : List UInt8), parse i acc b = some (N, r) → ∃ n, N = acc + n * 128 ^ i ∧ b = enc n ++ r ∧ (0 < i → 0 < n) ∧ N ≤ 4611686018427387904
  | [], i, acc, N, r, h => by simp [parse] at h
  | c :: b, i, acc, N, r, h => by
    have hc := c.toNat_lt
    rw [parse] at h
    by_cases h9 : 9 ≤ i
    · rw [if_pos h9] at h
      cases h
    · rw [if_neg h9] at h
      by_cases h1 : 128 ≤ c.toNat
      · rw [if_pos h1] at h
        obtain ⟨n, e1, e2, e3, e4⟩ := parse_back b (i + 1) _ N r h
        have hn : 0 < n := e3 (by omega)
        refine ⟨c.toNat % 128 + 128 * n, ?_, ?_, fun _ => by omega, e4⟩
        · rw [e1, Nat.add_mul, Nat.pow_succ, Nat.add_assoc]
          congr 2
          rw [Nat.mul_comm 128 n, Nat.mul_assoc, Nat.mul_comm 128]
        · have hl : ¬ (c.toNat % 128 + 128 * n) < 128 := by omega
          rw [enc_large hl, show (c.toNat % 128 + 128 * n) % 128 + 128 = c.toNat by omega, show (c.toNat % 128 + 128 * n) / 128 = n by omega, ofNat_toNat c _ rfl, e2]
          rfl
      · rw [if_neg h1] at h
        by_cases h2 : 4611686018427387904 < acc + c.toNat % 128 * 128 ^ i ∨ (c.toNat = 0 ∧ 0 < i)
        · rw [if_pos h2] at h
          cases h
        · rw [if_neg h2] at h
          injection h with h
          injection h with ha hb
          subst hb
          have hm : c.toNat % 128 = c.toNat := by omega
          rw [hm] at ha h2
          refine ⟨c.toNat, ha.symm, ?_, fun hi => ?_, by omega⟩
          · rw [enc_small (by omega), ofNat_toNat c _ rfl]
            rfl
          · rcases Nat.eq_zero_or_pos c.toNat with h0 | h0
            · exact absurd (.inr ⟨h0, hi⟩) h2
            · exact h0
theorem num_back {s : RS} (h : s.num.2.e = false) : s.e = false ∧ s.b = enc s.num.1 ++ s.num.2.b ∧ s.num.1 ≤ 4611686018427387904 := by
  unfold RS.num at *
  cases he : s.e
  case true =>
    rw [he, if_pos rfl] at h
    rw [he] at h
    cases h
  case false =>
    rw [he, if_neg (by decide)] at h
    rw [if_neg (by decide)]
    cases hp : parse 0 0 s.b with
    | none =>
      rw [hp] at h
      cases h
    | some x =>
      obtain ⟨N, r⟩ := x
      obtain ⟨n, e1, e2, _, e4⟩ := parse_back s.b 0 0 N r hp
      have hN : N = n := by simpa using e1
      refine ⟨rfl, ?_, e4⟩
      show s.b = enc N ++ r
      rw [hN]
      exact e2
theorem raw_back {s : RS} {i : Int} (h : (s.raw i).2.e = false) : s.e = false ∧ 0 ≤ i ∧ s.b = (s.raw i).1 ++ (s.raw i).2.b ∧ ((s.raw i).1.length : Int) = i := by
  unfold RS.raw at *
  by_cases hc : s.e ∨ i < 0 ∨ (s.b.length : Int) < i
  · rw [if_pos hc] at h
    cases h
  · rw [if_neg hc]
    have h1 : s.e = false := by
      cases he : s.e
      · rfl
      · exact absurd (.inl he) hc
    have h2 : 0 ≤ i := Int.not_lt.1 (fun h => hc (.inr (.inl h)))
    have h3 : i ≤ (s.b.length : Int) := Int.not_lt.1 (fun h => hc (.inr (.inr h)))
    refine ⟨h1, h2, (List.take_append_drop _ _).symm, ?_⟩
    show ((s.b.take i.toNat).length : Int) = i
    rw [List.length_take]
    omega
theorem hsh_back {s : RS} (h : (s.raw 32).2.e = false) : s.e = false ∧ s.b = s.hsh.l ++ (s.raw 32).2.b := by
  obtain ⟨h1, _, h3, h4⟩ := raw_back h
  refine ⟨h1, ?_⟩
  rw [RS.hsh, dif_pos (by omega)]
  exact h3
theorem encN {n : Nat} (h : n ≤ 4611686018427387904) : encAll [(n : Int)] = enc n := by rw [encAll_one, clampN_nat n h]
theorem kind_back {k : Nat} {b : List UInt8} (h : (kindS k b).e = false) : b = enc k ++ (kindS k b).b := by
  unfold kindS at *
  by_cases hk : (⟨b, false⟩ : RS).num.1 = k
  · rw [if_pos hk] at h ⊢
    have h1 := (num_back h).2.1
    rw [hk] at h1
    exact h1
  · rw [if_neg hk] at h
    cases h
theorem whole_back {s : RS} (h : wholeB s = true) : s.e = false ∧ s.b = [] := by
  unfold wholeB at h
  rw [Bool.and_eq_true] at h
  exact ⟨by simpa using h.1, of_decide_eq_true h.2⟩
theorem encAll_app (a b : List Int) : encAll (a ++ b) = encAll a ++ encAll b := by simp [encAll]
/-- a time's bytes -/
def timE (v e s : Int) (h : H32) : List UInt8 := encAll [2] ++ (encAll [v, e, s] ++ h.l)
/-- a report's bytes -/
def repE (l m : List UInt8) (h : H32) (c k : Int) : List UInt8 := encAll [5] ++ (encRow l ++ (encRow m ++ (h.l ++ encAll [c, k])))
end Go.Proofs.Ythcleccofccbdaa
end
section
open Go Go.RowKit
namespace Go.Proofs.Ythcleccofccbdaa
section
variable {P : Program} {ops : Array Oper} {rest : List Oper} {a : Act} {w : World} {Q : Exit → Act → World → Prop} {dst : Option Tmp} {ty : TypeId} {pos : String} {after : Array Edge} {gd : Option (Nat × Bool)}
/-- the address of an element of an array -/
theorem ev_indexRK {t e : TypeId} {x ix : Operand} {g k m : Nat} {i : Nat} (hx : a.eval x = .pointer (some ⟨g, k, none⟩)) (hi : a.eval ix = .int .i64 (i : Int)) (hu : P.underlying t = some (.array m e)) (hs : (P.info? e).map (·.size) = some 2) (h1 : i < m) :
    (execOp a.eval ⟨dst, .indexAddr t x ix, ty, pos, after, gd⟩).run P w = .ok (.value (.pointer (some ⟨g, k + i * 2, none⟩))) w := by
  show ((Instr.indexAt t (a.eval x) (a.eval ix)) >>= fun v => pure (Next.value v)).run P w = _
  rw [hx, hi]
  cases hq : P.info? e with
  | none => rw [hq] at hs; simp at hs
  | some j =>
    rw [hq] at hs
    simp at hs
    have h2 : (i : Int) < m := by omega
    simp [Instr.indexAt, asIntOf, run_underlying hu, sizeOf, typeInfo, hq, hs, h1, Instr.sureAddr, Addr.add]
theorem wpl_indexRK {t e : TypeId} {x ix : Operand} {g k m : Nat} {i : Nat} (hx : a.eval x = .pointer (some ⟨g, k, none⟩)) (hi : a.eval ix = .int .i64 (i : Int)) (hu : P.underlying t = some (.array m e)) (hs : (P.info? e).map (·.size) = some 2) (h1 : i < m)
    (h : wpList P ops Q rest (a.put dst (.pointer (some ⟨g, k + i * 2, none⟩))) w) : wpList P ops Q (⟨dst, .indexAddr t x ix, ty, pos, after, none⟩ :: rest) a w := wpl_of_run rfl (ev_indexRK hx hi hu hs h1) h
/-- a root's keys, whole -/
theorem ev_loadRK {t : TypeId} {x : Operand} {g i : Nat} (hx : a.eval x = .pointer (some ⟨g, 2 + i * 2, none⟩)) {tb : TypeId} {v e : Int} {K : List KR} (hb : HB w g tb (rootL v e K).toArray) (ht : RowT P t 2) (hk : i < K.length) :
    (execOp a.eval ⟨dst, .load t x, ty, pos, after, gd⟩).run P w = .ok (.value (.agg (RowC.enc (gt K i)).toArray)) w := by
  have e : a.eval x = ptrOf (some ⟨g, 2, none⟩) (i * 2) := by
    rw [hx]
    simp [ptrOf, shift, Addr.add]
  show ((Instr.loadAt t (a.eval x)) >>= fun v => pure (Next.value v)).run P w = _
  rw [e, Sem.run_bind, run_loadshift (k := i * 2) (cs := RowC.enc (gt K i)) (root_tail hb).out ht rfl (cellsOf_at K i hk) (by decide)]
  rfl
theorem wpl_loadRK {t : TypeId} {x : Operand} {g i : Nat} (hx : a.eval x = .pointer (some ⟨g, 2 + i * 2, none⟩)) {tb : TypeId} {v e : Int} {K : List KR} (hb : HB w g tb (rootL v e K).toArray) (ht : RowT P t 2) (hk : i < K.length)
    (h : wpList P ops Q rest (a.put dst (.agg (RowC.enc (gt K i)).toArray)) w) : wpList P ops Q (⟨dst, .load t x, ty, pos, after, none⟩ :: rest) a w := wpl_of_run rfl (ev_loadRK hx hb ht hk) h
theorem wpl_storeRK {t : TypeId} {x y : Operand} {g i : Nat} {k : KR} (hx : a.eval x = .pointer (some ⟨g, 2 + i * 2, none⟩)) (hy : a.eval y = .agg (RowC.enc k).toArray) {tb : TypeId} {v e : Int} {K : List KR} (hb : HB w g tb (rootL v e K).toArray) (ht : RowT P t 2) (hk : i < K.length)
    (h : ∀ w', Step (only g) w w' → HB w' g tb (rootL v e (K.set i k)).toArray → wpList P ops Q rest (a.put dst undef) w') : wpList P ops Q (⟨dst, .store t x y, ty, pos, after, none⟩ :: rest) a w := by
  have hsz : (rootL v e K).length = 2 + 2 * K.length := by
    simp [rootL, cellsOf_len, show RowC.size KR = 2 from rfl]
    omega
  have h1 : (cellsOf K).take (i * 2) ++ RowC.enc k ++ (cellsOf K).drop (i * 2 + 2) = cellsOf (K.set i k) := cellsOf_set K i k hk
  refine wpl_storepart hx hy hb ht rfl (by decide) (by rw [List.size_toArray, hsz]; omega) (by rw [Array.all_eq_true_iff_forall_mem]; intro u hu; exact RowC.one k u (by simpa using hu)) (cs' := (rootL v e (K.set i k)).toArray) ?_ h
  show (rootL v e K).take (2 + i * 2) ++ (RowC.enc k) ++ (rootL v e K).drop (2 + i * 2 + 2) = rootL v e (K.set i k)
  rw [rootL, rootL, ← h1, show 2 + i * 2 = (i * 2 + 1) + 1 by omega, show i * 2 + 1 + 1 + 2 = (i * 2 + 2 + 1) + 1 by omega]
  simp
end
/-- keys that are all at hand, in rows of their own -/
def KsIn (w0 w : World) (K : List KR) : Prop := ∀ k ∈ K, KIn w k ∧ NewA w0 k.A
theorem KsIn.chg {S : Nat → Prop} {w0 w w' : World} {K : List KR} (h : KsIn w0 w K) (hc : Chg S w w') (hS : ∀ x, S x → x < w0.heap.size) : KsIn w0 w' K := fun k hk => ⟨(h k hk).1.chg hc (fun x ⟨_, ad, e, hx⟩ hs => by
  have := (h k hk).2.out ad e
  have := hS x hs
  omega), (h k hk).2⟩
theorem KsIn.set {w0 w : World} {K : List KR} (h : KsIn w0 w K) (i : Nat) {k : KR} (h1 : KIn w k) (h2 : NewA w0 k.A) : KsIn w0 w (K.set i k) := fun x hx => by
  rcases List.mem_or_eq_of_mem_set hx with h3 | rfl
  · exact h x h3
  · exact ⟨h1, h2⟩
theorem KsIn.none (w0 w : World) : KsIn w0 w noK := fun k hk => by
  refine ⟨noKIn w k hk, ?_⟩
  simp only [noK, List.mem_cons, List.not_mem_nil, or_false] at hk
  have : k = noKR := by rcases hk with h | h | h | h <;> exact h
  subst this
  exact ⟨fun ad e => by cases e⟩
theorem KsIn.first {w0 w1 w : World} {K : List KR} (h : KsIn w1 w K) (hs : w0.heap.size ≤ w1.heap.size) : KsIn w0 w K := fun k hk => ⟨(h k hk).1, ⟨fun ad e => Nat.le_trans hs ((h k hk).2.out ad e)⟩⟩
theorem set_take_map {α β : Type} (f : α → β) (K : List α) (i : Nat) (x : α) (h : i < K.length) : ((K.set i x).take (i + 1)).map f = (K.take i).map f ++ [f x] := by
  rw [List.take_add_one, List.map_append]
  congr 1
  · rw [List.take_set_of_le (Nat.le_refl _)]
  · simp [h]
end Go.Proofs.Ythcleccofccbdaa
end
