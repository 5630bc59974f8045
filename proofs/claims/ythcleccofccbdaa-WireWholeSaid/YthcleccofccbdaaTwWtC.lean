/- WtA, WtB, WtC -/
import Derived.Test.YthcleccofccbdaaTwWsB
import Derived.Test.YthcleccofccbdaaTwRrC
section
open Go Go.RowKit
namespace Go.Proofs.Ythcleccofccbdaa
instance iWtA_1 : ZeroT Try.prog 78 (u8s zeroH.l) := ⟨.agg (u8s zeroH.l), fun _ => by kernel_rfl, rfl⟩
def RS.hsh (s : RS) : H32 := if h : (s.raw 32).1.length = 32 then ⟨(s.raw 32).1, h⟩ else zeroH
theorem RS.raw_c (s : RS) : (s.raw 32).1.length = 32 ∨ (s.raw 32).1 = [] := by
  unfold RS.raw
  split
  · exact .inr rfl
  · rename_i h
    refine .inl ?_
    show (s.b.take (32 : Int).toNat).length = 32
    rw [List.length_take]
    have : ¬ (s.b.length : Int) < 32 := fun h2 => h (.inr (.inr h2))
    omega
theorem RS.raw_l (s : RS) (i : Int) : (s.raw i).2.b.length ≤ s.b.length := by
  unfold RS.raw
  split
  · exact Nat.zero_le _
  · show (s.b.drop i.toNat).length ≤ _
    rw [List.length_drop]; omega
theorem RS.hsh_copy (s : RS) (m : Nat) (hm : m = (s.raw 32).1.length) : zeroH.l.take 0 ++ (s.raw 32).1 ++ zeroH.l.drop (0 + m) = s.hsh.l := by
  subst hm
  rcases s.raw_c with h | h
  · rw [RS.hsh, dif_pos h, h]
    show [] ++ (s.raw 32).1 ++ zeroH.l.drop 32 = _
    rw [show zeroH.l.drop 32 = [] from rfl, List.append_nil]
    rfl
  · rw [RS.hsh, dif_neg (by rw [h]; decide), h]
    rfl
section
variable {P : Program} {ops : Array Oper} {a : Act} {w : World} {dst : Option Tmp} {ty : TypeId} {pos : String} {after : Array Edge} {gd : Option (Nat × Bool)}
/-- an array as a slice -/
theorem ev_sl_arr0 {t e : TypeId} {x : Operand} {g m : Nat} (hx : a.eval x = .pointer (some ⟨g, 0, none⟩)) (hu : P.underlying t = some (.array m e)) (hs : (P.info? e).map (·.size) = some 1) :
    (execOp a.eval ⟨dst, .slice t x none none none, ty, pos, after, gd⟩).run P w = .ok (.value (.slice (some ⟨g, 0, none⟩) m m)) w := by
  show ((Instr.sliceAt t (a.eval x) none none none) >>= fun v => pure (Next.value v)).run P w = _
  rw [hx]
  cases hq : P.info? e with
  | none => rw [hq] at hs; simp at hs
  | some i => simp [Instr.sliceAt, run_underlying hu, Instr.sureAddr, Instr.sliceBounds, sizeOf, typeInfo, hq, add_zero_spot]
end
def gz2 (g z : Nat) : Nat → Prop := fun x => x = g ∨ x = z
instance (w : World) (g z : Nat) : Sub w (only g) (gz2 g z) := ⟨fun _ _ h => .inl h⟩
instance (w : World) (g z : Nat) : Sub w (only z) (gz2 g z) := ⟨fun _ _ h => .inr h⟩
instance (w : World) (g z : Nat) : Into w (only g) (gz2 g z) := ⟨fun _ _ h => .inl h⟩
instance (w : World) (g z : Nat) : Into w (only z) (gz2 g z) := ⟨fun _ _ h => .inr h⟩
set_option maxRecDepth 100000 in
set_option maxHeartbeats 1600000 in
theorem takeHash_calls {g d : Nat} {s : RS} {w : World} (hw : RdrAt w g d s) (hl : s.b.length ≤ 140737488351232) :
    Calls Try.prog 172 #[.pointer (some ⟨g, 0, none⟩)] w fun e w' => e = .returned (.agg (u8s s.hsh.l)) ∧ Step (only g) w w' ∧ RdrAt w' g d (s.raw 32).2 := by
  have HW0 := Lib.hid hw
  have HL := Lib.hid hl
  have hgl := hw.lt
  have hdl := hw.dlt
  clear hw hl
  go_enter Try.func172, Try.ntmps172
  go_wp2_with (first | ((with_reducible apply (wpl_alloc (dst := some 2))); intro zo wzo _ _ _) | ((with_reducible apply (wpl_alloc (dst := some 3))); intro zh wzh _ _ _) | ((with_reducible apply wpl_alloc); intro z wz _ _ _) | ((with_reducible apply wpl_loadrow); (exact rfl); infer_instance; infer_instance; (first | (with_reducible assumption) | (with_reducible exact H32.size _) | kernel_rfl)) | ((with_reducible apply wpl_loadcellN); (exact rfl); infer_instance; (exact rfl)) | ((with_reducible apply wpl_storerow); (exact rfl); (exact rfl); infer_instance; infer_instance; (first | (with_reducible assumption) | (with_reducible exact H32.size _) | kernel_rfl); (first | (with_reducible assumption) | (with_reducible exact H32.size _) | kernel_rfl); (first | (with_reducible exact u8s_one _) | (with_reducible assumption) | kernel_rfl); intro ws _ _) | ((with_reducible apply wpl_storecell); (exact rfl); (exact rfl); infer_instance; (exact rfl); (first | (with_reducible assumption) | omega | (focus (simp; done)) | (focus (simp; omega; done)) | decide); intro ws _ _))
  have hzo : w.heap.size ≤ zo := Nat.le_of_eq (inferInstance : Born w zo).eq.symm
  have hzh : w.heap.size ≤ zh := by
    have e1 := (inferInstance : Born wzo zh).eq
    have e2 := (inferInstance : SzLe w wzo).out
    omega
  have hb0 : HB wzh zh 78 (u8s zeroH.l) := inferInstance
  have o1 : OffB (only g) zh := ⟨fun e => by have e' : zh = g := e; omega⟩
  have o2 : OffB (only g) zo := ⟨fun e => by have e' : zo = g := e; omega⟩
  have hq0 : zeroH.l.length = 32 := rfl
  refine wp_region_N ((gz2 g zh)) (by kernel_rfl) (fun wd _ _ => ?_)
  refine' takeH (i := 0) (v := _) rfl (by kernel_rfl) (by kernel_rfl) (by kernel_rfl) (fun _ _ _ h => h) (yields_of (by rfl) (fun w' _ => ?_)) inferInstance ?_
  rotate_left
  · (first | ((with_reducible apply ev_sl_arr0); (exact rfl); (exact Try.underlying78); (kernel_rfl)) | ((with_reducible apply ev_sl_lh); (exact rfl); (exact rfl); (exact rfl); infer_instance; (first | (with_reducible assumption) | omega); (first | (with_reducible assumption) | omega)) | ((with_reducible apply ev_sl_h); (exact rfl); (exact rfl); infer_instance; (first | (with_reducible assumption) | omega)) | ((with_reducible apply ev_sl_l); (exact rfl); (exact rfl); infer_instance; (first | (with_reducible assumption) | omega)) | (go_simp; try with_reducible rfl))
  try simp only [Act.put, sA]; try simp only [sB, sC]
  refine' takeH (i := 1) (v := _) rfl (by kernel_rfl) (by kernel_rfl) (by kernel_rfl) (fun _ _ _ h => h) (yields_of (by rfl) (fun w' _ => ?_)) inferInstance ?_
  rotate_left
  · (go_simp; try with_reducible rfl)
  try simp only [Act.put, sA]; try simp only [sB, sC]
  refine goH (i := 2) (by kernel_rfl) rfl (fun K_ hK_ => ?_)
  go_simp
  refine (Raw_calls g d s 32 wd (HW0.out.chg (stepN (w0 := w) (w := wd)).chg (fun h => h) (fun h => h)) (by have := HL.out; omega)).mono ?_
  rintro e w5 ⟨A5, n5, c5, rfl, hn5, ho5, h5, cc5, hA5⟩
  have st5 : Step (only g) wd w5 := ⟨cc5.out⟩
  have hr5 : HR w5 A5 (bs (s.raw 32).1) := ⟨ho5.out.rd⟩
  have hle5 : n5 ≤ 32 := by
    have := hn5.out
    rcases s.raw_c with h | h
    · omega
    · rw [h] at this; simp at this; omega
  have hfit5 : 0 + n5 ≤ zeroH.l.length := by omega
  refine hK_.out _ _ inferInstance (fun _ => ?_)
  clear hK_ K_
  try simp only [Act.put, sA]; try simp only [sB, sC]
  refine goH (i := 3) (by kernel_rfl) rfl (fun K_ hK_ => ?_)
  rw [if_pos (by kernel_rfl)]
  refine wpr_of_list ?_
  (first | ((with_reducible apply wpl_copy); (exact Try.underlying28); (kernel_rfl); (exact rfl); (exact rfl); infer_instance; (exact hr5); (exact hn5.out.symm); (exact hle5); (exact hfit5); intro wc _ hbc) | ((with_reducible apply wpl_copy); (exact Try.underlying28); (kernel_rfl); (exact rfl); (exact rfl); infer_instance; infer_instance; (first | (with_reducible assumption) | (with_reducible exact H32.len _) | (focus (simp; done))); (first | (with_reducible assumption) | omega); (first | (with_reducible assumption) | omega | (focus (simp; done)) | (focus (simp; omega; done)) | decide); intro wc _ _))
  refine wpList_nil ?_
  unfold onlyN
  refine hK_.out _ _ inferInstance (fun _ => ?_)
  clear hK_ K_
  try simp only [Act.put, sA]; try simp only [sB, sC]
  refine wpAnyH_done (by kernel_rfl) ?_ _
  have hnx := s.hsh_copy n5 hn5.out
  rw [hnx] at hbc
  have hH : HB wc zh 78 (u8s s.hsh.l) := hbc
  have h9 : RdrAt wc g d (s.raw 32).2 := h5.out.chg2 (inferInstance : Step (only zh) w5 wc).chg (fun e => by have e' : g = zh := e; omega) (fun hne e => by
    have e' : d = zh := e
    have := hdl (fun h0 => hne (List.eq_nil_of_length_eq_zero (by have := s.raw_l 32; rw [h0] at this; simpa using this)))
    omega)
  have HR9 := Lib.hid h9
  have hlen9 : (u8s s.hsh.l).size = 32 := H32.size _
  clear h9 hnx h5
  go_wp2_with (first | ((with_reducible apply wpl_alloc); intro z wz _ _ _) | ((with_reducible apply wpl_loadrow); (exact rfl); infer_instance; infer_instance; (first | (with_reducible assumption) | (with_reducible exact H32.size _) | kernel_rfl)) | ((with_reducible apply wpl_loadcellN); (exact rfl); infer_instance; (exact rfl)) | ((with_reducible apply wpl_storerow); (exact rfl); (exact rfl); infer_instance; infer_instance; (first | (with_reducible assumption) | (with_reducible exact H32.size _) | kernel_rfl); (first | (with_reducible assumption) | (with_reducible exact H32.size _) | kernel_rfl); (first | (with_reducible exact u8s_one _) | (with_reducible assumption) | kernel_rfl); intro ws _ _) | ((with_reducible apply wpl_storecell); (exact rfl); (exact rfl); infer_instance; (exact rfl); (first | (with_reducible assumption) | omega | (focus (simp; done)) | (focus (simp; omega; done)) | decide); intro ws _ _))
  refine ret_row rfl rfl (n := 32) (H32.size _) rfl ⟨rfl, stepC, ?_⟩
  exact HR9.out.chg2 (inferInstance : Ch (only zo) wc ws).out (fun e => by have e' : g = zo := e; omega) (fun hne e => by
    have e' : d = zo := e
    have := hdl (fun h0 => hne (List.eq_nil_of_length_eq_zero (by have := s.raw_l 32; rw [h0] at this; simpa using this)))
    omega)
end Go.Proofs.Ythcleccofccbdaa
end
section
open Go Go.RowKit
namespace Go.Proofs.Ythcleccofccbdaa
instance iWtB_1 : ZeroT Try.prog 111 (timL 0 0 0 zeroH).toArray := ⟨.agg (timL 0 0 0 zeroH).toArray, fun _ => by kernel_rfl, rfl⟩
section
variable {P : Program} {ops : Array Oper} {rest : List Oper} {a : Act} {w : World} {Q : Exit → Act → World → Prop} {dst : Option Tmp} {ty : TypeId} {pos : String} {after : Array Edge}
end
/-- the numbers of a time, and its digest, as they are taken -/
def tV (s : RS) : Nat := s.num.1
def tE (s : RS) : Nat := (s.at 1).num.1
def tS (s : RS) : Nat := (s.at 2).num.1
def tH (s : RS) : H32 := (s.at 3).hsh
def tR (s : RS) : RS := ((s.at 3).raw 32).2
end Go.Proofs.Ythcleccofccbdaa
end
section
open Go Go.RowKit
namespace Go.Proofs.Ythcleccofccbdaa
/-- what is left behind the kind -/
def kindS (kind : Nat) (b : List UInt8) : RS := if (⟨b, false⟩ : RS).num.1 = kind then (⟨b, false⟩ : RS).num.2 else RS.bad
theorem kindS_le (kind : Nat) (b : List UInt8) : (kindS kind b).b.length ≤ b.length := by
  unfold kindS
  split
  · exact RS.num_le ⟨b, false⟩
  · exact Nat.zero_le _
def wholeB (s : RS) : Bool := !s.e && decide (s.b = [])
def tOk (b : List UInt8) : Bool := wholeB (tR (kindS 2 b)) && timB (tV (kindS 2 b)) (tE (kindS 2 b)) (tS (kindS 2 b))
/-- what is decoded -/
def timD (b : List UInt8) : Array Value := (timL (tV (kindS 2 b)) (tE (kindS 2 b)) (tS (kindS 2 b)) (tH (kindS 2 b))).toArray
def DecT (b : List UInt8) (w : World) : Ending → World → Prop := fun e w' => Step nowhere w w' ∧ e = .returned (if tOk b then .tuple #[.agg (timD b), .int .i64 0] else .tuple #[.agg (timL 0 0 0 zeroH).toArray, .int .i64 2])
end Go.Proofs.Ythcleccofccbdaa
end
