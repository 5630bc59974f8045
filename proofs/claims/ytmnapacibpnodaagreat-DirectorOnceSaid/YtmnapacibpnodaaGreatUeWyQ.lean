/- WvA, WyQ -/
import Derived.Test.YtmnapacibpnodaaGreatUeRrB
import Derived.Test.YtmnapacibpnodaaGreatUeWuC
import Derived.Stop.BytesEq
import Derived.Laws.StructEq
section
open Go Go.RowKit
namespace Go.Proofs.YtmnapacibpnodaaGreat
theorem RS.row_le (s : RS) : s.row.2.b.length ≤ s.b.length := by
  unfold RS.row
  exact Nat.le_trans (RS.raw_l _ _) (RS.num_le s)
set_option maxRecDepth 100000 in
theorem takeText_calls {g d : Nat} {s : RS} {w : World} (hw : RdrAt w g d s) (hl : s.b.length ≤ 140737488351232) :
    Calls Tryz.prog 70 #[.pointer (some ⟨g, 0, none⟩)] w fun e w' => e = .returned (.string (strL s.row.1)) ∧ Step (only g) w w' ∧ RdrAt w' g d s.row.2 := by
  go_enter Tryz.func70, Tryz.ntmps70
  go_wp2_with fail
  refine (rBytes_calls g d s w hw (by omega)).mono ?_
  rintro e w5 ⟨A5, n5, c5, rfl, hn5, ho5, h5, cc5, hA5⟩
  have hr5 : HR w5 A5 (bs s.row.1) := ⟨ho5.out.rd⟩
  have hle := hn5.out.symm
  have HR5 := h5
  have st5 : Step (only g) w w5 := ⟨cc5.out⟩
  clear hn5 ho5 h5 cc5 hA5
  go_wp2_with (first | ((with_reducible apply wpl_conv); (exact rfl); (exact hr5); (exact hle); (exact Tryz.underlying34); (exact Tryz.underlying5); (exact Tryz.underlying9)))
  go_ret
  exact ⟨rfl, st5, HR5.out⟩
theorem lay_rep2 (u n : ByteArray) (h : H32) : lay 2 (u8s h.l) (repL u n zeroH 0 0).toArray = (repL u n h 0 0).toArray := by
  apply Array.ext'
  show (repL u n zeroH 0 0).take 2 ++ (u8s h.l).toList ++ (repL u n zeroH 0 0).drop (2 + (u8s h.l).size) = repL u n h 0 0
  rw [h.size]
  show [Value.string u, .string n] ++ (u8s h.l).toList ++ [.int .i64 0, .int .i64 0] = repL u n h 0 0
  simp [repL, u8s]
instance zeroRep : ZeroT Tryz.prog 43 (repL ⟨#[]⟩ ⟨#[]⟩ zeroH 0 0).toArray := ⟨.agg (repL ⟨#[]⟩ ⟨#[]⟩ zeroH 0 0).toArray, fun _ => by kernel_rfl, rfl⟩
set_option maxRecDepth 100000 in
theorem run_rep (u n : ByteArray) (h : H32) (w : World) : (Instr.build 43 #[(0, .string u), (1, .string n), (2, .agg (u8s h.l))]).run Tryz.prog w = .ok (.agg (repL u n h 0 0).toArray) w := by
  refine run_build_struct Tryz.underlying43 (zv := .agg (repL ⟨#[]⟩ ⟨#[]⟩ zeroH 0 0).toArray) (fun _ => by kernel_rfl) (places := #[(0, 1), (1, 1), (2, 32), (34, 1), (35, 1)]) (fun _ => by kernel_rfl) ?_ w
  have h1 : ∀ u n h, (repL u n h 0 0).toArray.size = 36 := fun u n h => repL_len u n h 0 0
  show Instr.fill _ (repL ⟨#[]⟩ ⟨#[]⟩ zeroH 0 0).toArray [(0, .string u), (1, .string n), (2, .agg (u8s h.l))] = _
  rw [fill_step _ _ 0 _ _ (off := 0) (size := 1) rfl rfl (by rw [h1]; decide)]
  rw [show lay 0 (Value.string u).cells (repL ⟨#[]⟩ ⟨#[]⟩ zeroH 0 0).toArray = (repL u ⟨#[]⟩ zeroH 0 0).toArray from rfl]
  rw [fill_step _ _ 1 _ _ (off := 1) (size := 1) rfl rfl (by rw [h1]; decide)]
  rw [show lay 1 (Value.string n).cells (repL u ⟨#[]⟩ zeroH 0 0).toArray = (repL u n zeroH 0 0).toArray from rfl]
  rw [fill_step _ _ 2 _ _ (off := 2) (size := 32) rfl (by show (u8s h.l).size = 32; exact h.size) (by rw [h1]; decide)]
  rw [show lay 2 (Value.agg (u8s h.l)).cells (repL u n zeroH 0 0).toArray = (repL u n h 0 0).toArray from lay_rep2 u n h]
  rfl
theorem rep_set34 (u n : ByteArray) (h : H32) (c k v : Int) : (repL u n h c k).toArray.setIfInBounds 34 (.int .i64 v) = (repL u n h v k).toArray := by
  rw [sA]
  congr 1
  show Value.string u :: .string n :: (bs h.l ++ [Value.int .i64 c, .int .i64 k]).set 32 (.int .i64 v) = _
  rw [List.set_append_right _ _ (by rw [bs32]; exact Nat.le_refl _), bs32]
  rfl
theorem rep_set35 (u n : ByteArray) (h : H32) (c k v : Int) : (repL u n h c k).toArray.setIfInBounds 35 (.int .i64 v) = (repL u n h c v).toArray := by
  rw [sA]
  congr 1
  show Value.string u :: .string n :: (bs h.l ++ [Value.int .i64 c, .int .i64 k]).set 33 (.int .i64 v) = _
  rw [List.set_append_right _ _ (by rw [bs32]; decide), bs32]
  rfl
/-- the parts of a report, as they are taken -/
def rU (s : RS) : List UInt8 := s.row.1
def rN (s : RS) : List UInt8 := s.row.2.row.1
def rS2 (s : RS) : RS := s.row.2.row.2
def rH (s : RS) : H32 := (rS2 s).hsh
def rS3 (s : RS) : RS := ((rS2 s).raw 32).2
def rC (s : RS) : Nat := (rS3 s).num.1
def rK (s : RS) : Nat := ((rS3 s).at 1).num.1
def rR (s : RS) : RS := (rS3 s).at 2
theorem rS2_le (s : RS) : (rS2 s).b.length ≤ s.b.length := Nat.le_trans (RS.row_le _) (RS.row_le s)
theorem rS3_le (s : RS) : (rS3 s).b.length ≤ s.b.length := Nat.le_trans (RS.raw_l _ _) (rS2_le s)
theorem rR_le (s : RS) : (rR s).b.length ≤ s.b.length := Nat.le_trans (RS.at_le _ _) (rS3_le s)
theorem ne_of_le {a b : List UInt8} (h : a.length ≤ b.length) (ha : a ≠ []) : b ≠ [] := fun hb => ha (List.eq_nil_of_length_eq_zero (by rw [hb] at h; simpa using h))
theorem put2 (z : Nat) (s : RS) (u n : ByteArray) (h : H32) : putN z [some ⟨z, 34, none⟩, some ⟨z, 35, none⟩] s 2 (repL u n h 0 0).toArray = (repL u n h (s.num.1 : Nat) ((s.at 1).num.1 : Nat)).toArray := by
  simp only [putN, List.getElem?_cons_zero, List.getElem?_cons_succ, if_pos]
  rw [rep_set34, rep_set35]
  rfl
theorem run_ptr2 (a b : Option Addr) (w : World) : (Instr.buildSlice 160 2 #[(0, .pointer a), (1, .pointer b)]).run Tryz.prog w = .ok (.slice (some ⟨w.heap.size, 0, none⟩) 2 2) (w.alloc (.cells #[.pointer a, .pointer b] 132)) := by kernel_rfl
set_option maxRecDepth 100000 in
set_option maxHeartbeats 1600000 in
theorem takeReport_calls {g d : Nat} {s : RS} {w : World} (hw : RdrAt w g d s) (hl : s.b.length ≤ 140737488351232) :
    Calls Tryz.prog 44 #[.pointer (some ⟨g, 0, none⟩)] w fun e w' => e = .returned (.agg (repL (strL (rU s)) (strL (rN s)) (rH s) (rC s) (rK s)).toArray) ∧ Step (only g) w w' ∧ RdrAt w' g d (rR s) := by
  have HW0 := Lib.hid hw
  have HL := Lib.hid hl
  have hgl := hw.lt
  have hdl := hw.dlt
  have kbR := run_rep (strL (rU s)) (strL (rN s)) (rH s)
  have hsz0 := repL_len (strL (rU s)) (strL (rN s)) (rH s) 0 0
  have hon0 := repL_one (strL (rU s)) (strL (rN s)) (rH s) 0 0
  have hlz := repL_len ⟨#[]⟩ ⟨#[]⟩ zeroH 0 0
  clear hw hl
  go_enter Tryz.func44, Tryz.ntmps44
  go_wp2_with (first | ((with_reducible apply (wpl_alloc (dst := some 2))); intro zo wzo _ _ _))
  have hzo : w.heap.size ≤ zo := Nat.le_of_eq (inferInstance : Born w zo).eq.symm
  have ozo : OffB (only g) zo := ⟨fun e => by have e' : zo = g := e; omega⟩
  have ag : Into w (only g) (only g) := ⟨fun _ _ h => h⟩
  refine (takeText_calls (HW0.out.chg (inferInstance : Nw w _).out (fun h => h) (fun h => h)) HL.out).mono ?_
  rintro e w3 ⟨rfl, st3, h3⟩
  have H3 := Lib.hid h3
  clear h3
  go_wp2_with fail
  refine (takeText_calls H3.out (Nat.le_trans (RS.row_le s) HL.out)).mono ?_
  rintro e w4 ⟨rfl, st4, h4⟩
  have H4 := Lib.hid h4
  clear h4
  go_wp2_with fail
  refine (takeHash_calls H4.out (Nat.le_trans (rS2_le s) HL.out)).mono ?_
  rintro e w5 ⟨rfl, st5, h5⟩
  have H5 : Hid (RdrAt w5 g d (rS3 s)) := Lib.hid h5
  clear h5
  have kbR2 : ∀ w, (Instr.build 43 #[(0, .string (strL s.row.1)), (1, .string (strL s.row.2.row.1)), (2, .agg (u8s s.row.2.row.2.hsh.l))]).run Tryz.prog w = .ok (.agg (repL (strL (rU s)) (strL (rN s)) (rH s) 0 0).toArray) w := kbR
  go_wp2_with (first | ((with_reducible apply wpl_build); (exact kbR2 _)) | ((with_reducible apply wpl_storerow); (exact rfl); (exact rfl); infer_instance; infer_instance; (exact repL_len _ _ _ _ _); (exact repL_len _ _ _ _ _); (exact repL_one _ _ _ _ _); intro ws _ _) | ((with_reducible apply (stop_dst (dst := some 14))); (try simp only [Act.put, sA, sB, sC]); ((with_reducible apply (wpl_bslice (dst := some 14))); (exact run_ptr2 _ _ _); intro zb wb _ _ _)) | ((with_reducible apply (wpl_alloc (dst := some 3))); intro zt wzt _ _ _))
  have e1 := (inferInstance : Born w5 zt).eq
  have e2 := (inferInstance : Born ws zb).eq
  have hw5 := (inferInstance : SzLe w w5).out
  have hbb : HB wb zb 132 #[.pointer (some ⟨zt, 34, none⟩), .pointer (some ⟨zt, 35, none⟩)] := inferInstance
  have hbt : HB wb zt 43 (repL (strL (rU s)) (strL (rN s)) (rH s) 0 0).toArray := inferInstance
  have hs5 : w5.heap.size ≤ ws.heap.size := (inferInstance : SzLe w5 ws).out
  have hzts : zt < ws.heap.size := (inferInstance : HB ws zt 43 (repL (strL (rU s)) (strL (rN s)) (rH s) 0 0).toArray).out.lt
  have hzt : w.heap.size ≤ zt := by omega
  have hzb : w.heap.size ≤ zb := by omega
  have hzbt : zb ≠ zt := by omega
  have hzot : zo < zt := by
    have h1 := (inferInstance : HB wzo zo 43 (repL ⟨#[]⟩ ⟨#[]⟩ zeroH 0 0).toArray).out.lt
    have h2 := (inferInstance : SzLe wzo w5).out
    omega
  have hnn : Nw w5 wb := inferInstance
  have hdt : (rS3 s).b ≠ [] → zt ≠ d := fun h e => by
    have := hdl (ne_of_le (rS3_le s) h)
    omega
  have hrd := hbb.rdL
  refine (rNums_calls g d (rS3 s) (some ⟨zb, 0, none⟩) 2 2 [some ⟨zt, 34, none⟩, some ⟨zt, 35, none⟩] _ (H5.out.chg hnn.out (fun h => h) (fun h => h)) (by have := rS3_le s; have := HL.out; omega) hrd rfl (by decide) ?_ ?_).mono ?_
  · rintro _ ad e hk
    injection e with e
    subst e
    rcases hk with hk | ⟨ad, hm, hk⟩
    · have hk' : zb = g := hk
      omega
    · simp only [List.mem_cons, List.not_mem_nil, or_false, Option.some.injEq] at hm
      rcases hm with rfl | rfl
      · exact hzbt hk.symm
      · exact hzbt hk.symm
  · intro ad hm
    have hsz := repL_len (strL (rU s)) (strL (rN s)) (rH s) 0 0
    simp only [List.mem_cons, List.not_mem_nil, or_false, Option.some.injEq] at hm
    rcases hm with rfl | rfl
    · exact ⟨zt, 34, _, _, rfl, hbt.out, by rw [hsz]; decide, by omega, hdt⟩
    · exact ⟨zt, 35, _, _, rfl, hbt.out, by rw [hsz]; decide, by omega, hdt⟩
  rintro e w6 ⟨rfl, h6, c6, p6⟩
  have st6 : Step (gz2 g zt) wb w6 := ⟨c6.out.mono (fun x _ hx => by
    rcases hx with hx | ⟨ad, hm, hk⟩
    · exact .inl hx
    · simp only [List.mem_cons, List.not_mem_nil, or_false, Option.some.injEq] at hm
      rcases hm with rfl | rfl
      · exact .inr hk.symm
      · exact .inr hk.symm)⟩
  have ht6 : HB w6 zt 43 (repL (strL (rU s)) (strL (rN s)) (rH s) (rC s) (rK s)).toArray := ⟨by
    have h1 := p6.out zt _ _ (by omega) hbt.out
    rwa [put2 zt (rS3 s)] at h1⟩
  have o2 : OffB (gz2 g zt) zo := ⟨fun e => by rcases e with e | e <;> omega⟩
  have o4 : OffB (only zt) zo := ⟨fun e => by have e' : zo = zt := e; omega⟩
  have HR6 := h6
  have hzo6 : HB w6 zo 43 (repL ⟨#[]⟩ ⟨#[]⟩ zeroH 0 0).toArray := inferInstance
  have iz : Into w (gz2 g zt) (only g) := ⟨fun x hx h => h.elim id (fun h => by omega)⟩
  have i2 : Into w (only zt) (only g) := ⟨fun x hx h => by have h' : x = zt := h; omega⟩
  have i3 : Into w (only zo) (only g) := ⟨fun x hx h => by have h' : x = zo := h; omega⟩
  have ch6 : Ch (only g) w w6 := inferInstance
  clear c6 p6 h6 hbt hbb hrd e1 e2 hw5 hs5 hzts
  go_wp2_with (first | ((with_reducible apply wpl_loadrow); (exact rfl); (exact ht6); infer_instance; (exact repL_len _ _ _ _ _)) | ((with_reducible apply wpl_storerow); (exact rfl); (exact rfl); (exact hzo6); infer_instance; (exact repL_len _ _ _ _ _); (exact repL_len _ _ _ _ _); (exact repL_one _ _ _ _ _); intro wf _ _))
  refine ret_row rfl rfl (n := 36) (repL_len _ _ _ _ _) rfl ⟨rfl, ⟨(inferInstance : Ch (only g) w _).out⟩, ?_⟩
  exact HR6.out.chg2 (inferInstance : Ch (only zo) w6 _).out (fun e => by have e' : g = zo := e; omega) (fun hne e => by
    have := hdl (ne_of_le (rR_le s) hne)
    have e' : d = zo := e
    omega)
end Go.Proofs.YtmnapacibpnodaaGreat
end
section
open Go Go.RowKit
namespace Go.Proofs.YtmnapacibpnodaaGreat
instance decH32W : DecidableEq H32 := fun a b => decidable_of_iff (a.l = b.l) ⟨H32.ext', congrArg _⟩
/-- a time's parts -/
structure TimR where
  v : Int
  e : Int
  s : Int
  h : H32
def TimR.arr (t : TimR) : Array Value := (timL t.v t.e t.s t.h).toArray
def tmB (a b : TimR) : Bool := (a.v == b.v) && ((a.e == b.e) && ((a.s == b.s) && decide (a.h = b.h)))
/-- a report's parts -/
structure RepR where
  u : ByteArray
  n : ByteArray
  h : H32
  c : Int
  k : Int
def RepR.arr (t : RepR) : Array Value := (repL t.u t.n t.h t.c t.k).toArray
def rpB (a b : RepR) : Bool := (a.u.toList == b.u.toList) && ((a.n.toList == b.n.toList) && (decide (a.h = b.h) && ((a.c == b.c) && (a.k == b.k))))
end Go.Proofs.YtmnapacibpnodaaGreat
end
