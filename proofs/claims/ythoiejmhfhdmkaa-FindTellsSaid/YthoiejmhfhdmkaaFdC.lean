/- The reference's Find. -/
import Derived.Test.YthoiejmhfhdmkaaFdB
open Go Go.RowKit
namespace Go.Proofs.Ythoiejmhfhdmkaa
theorem wpl_makeBl {P : Program} {ops : Array Oper} {rest : List Oper} {a : Act} {w : World} {Q : Exit → Act → World → Prop} {dst : Option Tmp} {ty : TypeId} {pos : String} {after : Array Edge} {t e : TypeId} {x y : Operand} {n : Nat} (hx : a.eval x = .int .i64 (n : Int)) (hy : a.eval y = .int .i64 (n : Int)) (E : ElemT P t e 1 1 (.bool false)) (hn : n ≤ 100000000000000)
    (h : ∀ g w', Born w g → Step nowhere w w' → HB w' g e (seenL n (fun _ => false)) → wpList P ops Q rest (a.put dst (.slice (some ⟨g, 0, none⟩) n n)) w') :
    wpList P ops Q (⟨dst, .makeSlice t x y, ty, pos, after, none⟩ :: rest) a w := by
  obtain ⟨i, hi, hz, hs, hb⟩ := info_parts E.out.info
  have hr := run_make (P := P) w t e i _ E.out.under hi hz .i64 .i64 n n (by omega) (Int.le_refl _) (by rw [hb]; omega) (by omega)
  simp only [Int.toNat_natCast] at hr
  have e1 : madeCells (Value.bool false).cells (n * i.size) = seenL n (fun _ => false) := by
    apply Array.ext'
    have h5 : ∀ v ∈ (madeCells (Value.bool false).cells (n * i.size)).toList, v = .bool false := by
      intro v hv
      simp only [madeCells, Array.toList_map, List.mem_map] at hv
      obtain ⟨j, _, rfl⟩ := hv
      have h9 : (Value.bool false).cells.size = 1 := by decide
      rw [h9, Nat.mod_one]
      rfl
    have h6 : ∀ v ∈ (seenL n (fun _ => false)).toList, v = .bool false := by
      intro v hv
      simp [seenL] at hv
      exact hv.2.symm
    have h7 : (seenL n (fun _ => false)).toList.length = n := by rw [Array.length_toList, seenL_size]
    have h8 : (madeCells (Value.bool false).cells (n * i.size)).toList.length = n := by rw [Array.length_toList, size_madeCells, hs, Nat.mul_one]
    rw [List.eq_replicate_iff.2 ⟨h7, h6⟩]
    exact List.eq_replicate_iff.2 ⟨h8, h5⟩
  rw [e1] at hr
  refine wpl_of_run rfl (w' := w.alloc (.cells (seenL n (fun _ => false)) e)) (v := .slice (some ⟨w.heap.size, 0, none⟩) n n) ?_ (h _ _ ⟨rfl⟩ inferInstance ⟨Blk.new w e _⟩)
  show ((Instr.makeSlice t (a.eval x) (a.eval y)) >>= fun v => pure (Next.value v)).run P w = _
  rw [hx, hy, Sem.run_bind, hr]
  rfl
instance : RowT Try.prog 83 4 := ⟨by kernel_rfl, _, Try.underlying83, rfl⟩
set_option maxRecDepth 100000 in
set_option maxHeartbeats 1600000 in
theorem rfind_calls {A : Option Addr} {n c : Nat} {ts : List TS} (nm : ByteArray) {w : World} [hr : HR w A (cellsOf ts)] [ht : HTs w ts] (hl : ts.length = n) (hn : n ≤ 100000000000000) (hwf : TSWf ts) :
    Calls Try.prog 21 #[.slice A n c, .string nm] w fun e w' => e = .returned (.tuple #[.agg (RowC.enc (fT (findS ts nm))).toArray, .string (fW (findS ts nm)), .bool (findS ts nm).isSome]) ∧ Step nowhere w w' := by
  have kb0 : ∀ w, (Instr.build 37 #[]).run Try.prog w = .ok (.agg (RowC.enc zTG).toArray) w := fun _ => by kernel_rfl
  have kbS : ∀ (A : Option Addr) (n c : Nat) (nm : ByteArray) (g : Nat) w, (Instr.build 83 #[(0, .slice A n c), (1, .string nm), (2, .slice (some ⟨g, 0, none⟩) n n)]).run Try.prog w = .ok (.agg #[.slice A n c, .string nm, .slice (some ⟨g, 0, none⟩) n n, .bool false]) w := fun _ _ _ _ _ _ => by kernel_rfl
  by_cases h0 : n = 0
  · have hb : ((n : Int) == 0) = true := by simp; omega
    have hs : findS ts nm = none := if_pos (by omega)
    rw [hs]
    clear h0 hs
    go_enter Try.func21, Try.ntmps21
    go_wp2_with (first | ((with_reducible apply wpl_build); (exact kb0 _)) | ((with_reducible apply (wpl_alloc (dst := some 4))); intro zo wzo _ _ _) | ((with_reducible apply (wpl_box_agg (dst := some 4))); (exact rfl); intro zo wzo _ _ _) | ((with_reducible apply (wpl_box_int (dst := some 4))); (exact rfl); intro zo wzo _ _ _) | ((with_reducible apply (wpl_box_slice (dst := some 4))); (exact rfl); intro zo wzo _ _ _) | ((with_reducible apply (wpl_box_str (dst := some 4))); (exact rfl); intro zo wzo _ _ _) | ((with_reducible apply (wpl_box_bool (dst := some 4))); (exact rfl); intro zo wzo _ _ _) | ((with_reducible apply (wpl_box_ptr (dst := some 4))); (exact rfl); intro zo wzo _ _ _) | ((with_reducible apply wpl_alloc); intro z wz _ _ _) | ((with_reducible apply wpl_box_agg); (exact rfl); intro z wz _ _ _) | ((with_reducible apply wpl_box_int); (exact rfl); intro z wz _ _ _) | ((with_reducible apply wpl_box_slice); (exact rfl); intro z wz _ _ _) | ((with_reducible apply wpl_box_str); (exact rfl); intro z wz _ _ _) | ((with_reducible apply wpl_box_bool); (exact rfl); intro z wz _ _ _) | ((with_reducible apply wpl_box_ptr); (exact rfl); intro z wz _ _ _) | ((with_reducible apply wpl_storerow); (exact rfl); (exact rfl); (exact inferInstance); (exact inferInstance); (first | (with_reducible assumption) | (with_reducible exact H32.size _) | (with_reducible exact enc_sz _ rfl) | kernel_rfl); (first | (with_reducible assumption) | (with_reducible exact H32.size _) | (with_reducible exact enc_sz _ rfl) | kernel_rfl); (first | (with_reducible exact u8s_one _) | (with_reducible assumption) | (with_reducible exact enc_one _) | kernel_rfl); intro ws _ _) | ((with_reducible apply wpl_storecell); (exact rfl); (exact rfl); (exact inferInstance); (exact rfl); (first | (with_reducible assumption) | omega | (focus (simp; done)) | (focus (simp; omega; done)) | decide); intro ws _ _) | ((with_reducible apply (wpl_storehash (t := 26))); (exact rfl); (exact rfl); (exact inferInstance); (exact inferInstance); (first | (with_reducible assumption) | omega | (focus (simp; done)) | (focus (simp; omega; done)) | decide); intro ws _ _) | ((with_reducible apply wpl_makehash); (exact rfl); (exact rfl); (exact inferInstance); (first | (with_reducible assumption) | omega); intro zm wm _ _ _) | ((with_reducible apply (wpl_storeint (t := 3))); (exact rfl); (exact rfl); (exact inferInstance); (first | (with_reducible assumption) | omega); intro ws _ _) | ((with_reducible apply (wpl_storebyte (t := 5))); (exact rfl); (exact rfl); (exact inferInstance); (first | (with_reducible assumption) | omega | (focus (simp; done)) | (focus (simp; omega; done)) | decide); (constructor <;> omega); intro ws _ _))
    exact ret_row3 rfl rfl (n := 37) (enc_sz _ rfl) rfl ⟨rfl, stepN⟩
  · have hb : ((n : Int) == 0) = false := by simp; omega
    have hn0 : 0 < n := by omega
    obtain ⟨Q, hQ⟩ : ∃ Q, Q = askS ts nm 3 (fun _ => false) 0 := ⟨_, rfl⟩
    have hs : findS ts nm = Q.hit := by rw [findS, if_neg (by omega), hQ]
    have HQ := Lib.hid hQ
    have HW := Lib.hid hwf
    rw [hs]
    clear h0 hs hQ hwf
    go_enter Try.func21, Try.ntmps21
    go_wp2_with (first | ((with_reducible apply (wpl_makeBl (t := 81))); (exact rfl); (exact rfl); (exact inferInstance); (first | (with_reducible assumption) | omega); intro zb wm _ _ _) | ((with_reducible apply (stop_dst (dst := some 17))); (try simp only [Act.put, List.setIfInBounds_toArray, List.set_cons_succ, List.set_cons_zero]); ((with_reducible apply (wpl_build (dst := some 17))); (exact kbS _ _ _ _ _ _))) | ((with_reducible apply (wpl_alloc (dst := some 4))); intro zo wzo _ _ _) | ((with_reducible apply (wpl_box_agg (dst := some 4))); (exact rfl); intro zo wzo _ _ _) | ((with_reducible apply (wpl_box_int (dst := some 4))); (exact rfl); intro zo wzo _ _ _) | ((with_reducible apply (wpl_box_slice (dst := some 4))); (exact rfl); intro zo wzo _ _ _) | ((with_reducible apply (wpl_box_str (dst := some 4))); (exact rfl); intro zo wzo _ _ _) | ((with_reducible apply (wpl_box_bool (dst := some 4))); (exact rfl); intro zo wzo _ _ _) | ((with_reducible apply (wpl_box_ptr (dst := some 4))); (exact rfl); intro zo wzo _ _ _) | ((with_reducible apply (wpl_alloc (dst := some 18))); intro zs wzs _ _ _) | ((with_reducible apply (wpl_box_agg (dst := some 18))); (exact rfl); intro zs wzs _ _ _) | ((with_reducible apply (wpl_box_int (dst := some 18))); (exact rfl); intro zs wzs _ _ _) | ((with_reducible apply (wpl_box_slice (dst := some 18))); (exact rfl); intro zs wzs _ _ _) | ((with_reducible apply (wpl_box_str (dst := some 18))); (exact rfl); intro zs wzs _ _ _) | ((with_reducible apply (wpl_box_bool (dst := some 18))); (exact rfl); intro zs wzs _ _ _) | ((with_reducible apply (wpl_box_ptr (dst := some 18))); (exact rfl); intro zs wzs _ _ _) | ((with_reducible apply wpl_alloc); intro z wz _ _ _) | ((with_reducible apply wpl_box_agg); (exact rfl); intro z wz _ _ _) | ((with_reducible apply wpl_box_int); (exact rfl); intro z wz _ _ _) | ((with_reducible apply wpl_box_slice); (exact rfl); intro z wz _ _ _) | ((with_reducible apply wpl_box_str); (exact rfl); intro z wz _ _ _) | ((with_reducible apply wpl_box_bool); (exact rfl); intro z wz _ _ _) | ((with_reducible apply wpl_box_ptr); (exact rfl); intro z wz _ _ _) | ((with_reducible apply wpl_storerow); (exact rfl); (exact rfl); (exact inferInstance); (exact inferInstance); (first | (with_reducible assumption) | (with_reducible exact H32.size _) | (with_reducible exact enc_sz _ rfl) | kernel_rfl); (first | (with_reducible assumption) | (with_reducible exact H32.size _) | (with_reducible exact enc_sz _ rfl) | kernel_rfl); (first | (with_reducible exact u8s_one _) | (with_reducible assumption) | (with_reducible exact enc_one _) | kernel_rfl); intro ws _ _) | ((with_reducible apply wpl_storecell); (exact rfl); (exact rfl); (exact inferInstance); (exact rfl); (first | (with_reducible assumption) | omega | (focus (simp; done)) | (focus (simp; omega; done)) | decide); intro ws _ _) | ((with_reducible apply (wpl_storehash (t := 26))); (exact rfl); (exact rfl); (exact inferInstance); (exact inferInstance); (first | (with_reducible assumption) | omega | (focus (simp; done)) | (focus (simp; omega; done)) | decide); intro ws _ _) | ((with_reducible apply wpl_makehash); (exact rfl); (exact rfl); (exact inferInstance); (first | (with_reducible assumption) | omega); intro zm wm _ _ _) | ((with_reducible apply (wpl_storeint (t := 3))); (exact rfl); (exact rfl); (exact inferInstance); (first | (with_reducible assumption) | omega); intro ws _ _) | ((with_reducible apply (wpl_storebyte (t := 5))); (exact rfl); (exact rfl); (exact inferInstance); (first | (with_reducible assumption) | omega | (focus (simp; done)) | (focus (simp; omega; done)) | decide); (constructor <;> omega); intro ws _ _))
    change Calls _ _ #[_, .int .i64 ((0 : Nat) : Int), .int .i64 ((4 : Int) - ((3 : Nat) : Int))] _ _
    refine (rask_calls ts nm HW.out 3 (by decide) A n c zb zs 0 (fun _ => false) _ ⟨inferInstance, inferInstance, inferInstance, inferInstance, inferInstance, inferInstance, inferInstance, inferInstance⟩ inferInstance inferInstance hl (by omega) hn0).mono ?_
    rw [← HQ.out]
    rintro e w2 ⟨rfl, _, _, _⟩
    go_wp2_with (first | ((with_reducible apply wpl_alloc); intro z wz _ _ _) | ((with_reducible apply wpl_box_agg); (exact rfl); intro z wz _ _ _) | ((with_reducible apply wpl_box_int); (exact rfl); intro z wz _ _ _) | ((with_reducible apply wpl_box_slice); (exact rfl); intro z wz _ _ _) | ((with_reducible apply wpl_box_str); (exact rfl); intro z wz _ _ _) | ((with_reducible apply wpl_box_bool); (exact rfl); intro z wz _ _ _) | ((with_reducible apply wpl_box_ptr); (exact rfl); intro z wz _ _ _) | ((with_reducible apply wpl_storerow); (exact rfl); (exact rfl); (exact inferInstance); (exact inferInstance); (first | (with_reducible assumption) | (with_reducible exact H32.size _) | (with_reducible exact enc_sz _ rfl) | kernel_rfl); (first | (with_reducible assumption) | (with_reducible exact H32.size _) | (with_reducible exact enc_sz _ rfl) | kernel_rfl); (first | (with_reducible exact u8s_one _) | (with_reducible assumption) | (with_reducible exact enc_one _) | kernel_rfl); intro ws _ _) | ((with_reducible apply wpl_storecell); (exact rfl); (exact rfl); (exact inferInstance); (exact rfl); (first | (with_reducible assumption) | omega | (focus (simp; done)) | (focus (simp; omega; done)) | decide); intro ws _ _) | ((with_reducible apply (wpl_storehash (t := 26))); (exact rfl); (exact rfl); (exact inferInstance); (exact inferInstance); (first | (with_reducible assumption) | omega | (focus (simp; done)) | (focus (simp; omega; done)) | decide); intro ws _ _) | ((with_reducible apply wpl_makehash); (exact rfl); (exact rfl); (exact inferInstance); (first | (with_reducible assumption) | omega); intro zm wm _ _ _) | ((with_reducible apply (wpl_storeint (t := 3))); (exact rfl); (exact rfl); (exact inferInstance); (first | (with_reducible assumption) | omega); intro ws _ _) | ((with_reducible apply (wpl_storebyte (t := 5))); (exact rfl); (exact rfl); (exact inferInstance); (first | (with_reducible assumption) | omega | (focus (simp; done)) | (focus (simp; omega; done)) | decide); (constructor <;> omega); intro ws _ _))
    exact ret_row3 rfl rfl (n := 37) (enc_sz _ rfl) rfl ⟨rfl, stepN⟩
end Go.Proofs.Ythoiejmhfhdmkaa
