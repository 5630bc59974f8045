/- ChA -/
import Derived.Test.YthcleccofccbdaaGreatTbQmF
import Derived.Test.YthcleccofccbdaaGreatTbRoJ
import Derived.Test.YthcleccofccbdaaGreatTbRoK
open Go Go.RowKit Go.WideMaps
namespace Go.Proofs.YthcleccofccbdaaGreat
/-- an envelope, and what its rows hold -/
structure EnvR where
  M : Option Addr
  nb : Nat
  cb : Nat
  A : Option Addr
  n : Nat
  c : Nat
  m : List UInt8
  l : List MarkR
instance rowCEnv : RowC EnvR := ⟨2, fun k => [.slice k.M k.nb k.cb, .slice k.A k.n k.c], fun _ => rfl, fun k u hu => by
  simp only [List.mem_cons, List.not_mem_nil, or_false] at hu
  rcases hu with rfl | rfl <;> rfl, ⟨none, 0, 0, none, 0, 0, [], []⟩⟩
structure EnvIn (w : World) (r : EnvR) : Prop where
  mr : Rd w r.M (bs r.m)
  ar : Rd w r.A (cellsOf r.l)
  marks : ∀ x ∈ r.l, MarkIn w x
  ml : r.m.length = r.nb
  mc : r.nb ≤ r.cb
  al : r.l.length = r.n
  ac : r.n ≤ r.c
  an : r.n ≤ 9223372036854775807
  mn : r.nb ≤ 140737488351232
theorem EnvIn.nw {w0 w : World} [n : Nw w0 w] {r : EnvR} (h : EnvIn w0 r) : EnvIn w r := ⟨h.mr.chg n.out (fun _ _ _ h => h), h.ar.chg n.out (fun _ _ _ h => h), fun x hx => MarkIn.nw (h.marks x hx), h.ml, h.mc, h.al, h.ac, h.an, h.mn⟩
instance elemEnv : ElemT Tryz.prog 75 133 2 48 (.agg #[.slice none 0 0, .slice none 0 0]) := ⟨⟨Tryz.underlying75, by kernel_rfl, rfl, by decide⟩⟩
instance zeroEnv : ZeroT Tryz.prog 133 #[.slice none 0 0, .slice none 0 0] := ⟨.agg #[.slice none 0 0, .slice none 0 0], fun _ => by kernel_rfl, rfl⟩
instance cellChMs : CellT Tryz.prog 131 := ⟨fun _ => by kernel_rfl, fun _ => by kernel_rfl⟩
theorem env_body (r : EnvR) : nth (RowC.enc r) 0 = some (.slice r.M r.nb r.cb) := rfl
theorem env_marks (r : EnvR) : nth (RowC.enc r) 1 = some (.slice r.A r.n r.c) := rfl
theorem markc_chains (r : MarkR) : nth (RowC.enc r) (32 + 1) = some (.slice r.A r.l.length r.c) := by
  rw [← nth_get]
  show (bs r.key.l ++ r.sig)[33]? = _
  rw [List.getElem?_append_right (by rw [bs_length, r.key.len]; decide), bs_length, r.key.len]
  rfl
theorem markc_path (r : MarkR) : nth (RowC.enc r) (32 + 2) = some (.slice r.B r.p.length r.k) := by
  rw [← nth_get]
  show (bs r.key.l ++ r.sig)[34]? = _
  rw [List.getElem?_append_right (by rw [bs_length, r.key.len]; decide), bs_length, r.key.len]
  rfl
section
variable {P : Program} {a : Act} {w : World} {dst : Option Tmp} {ty : TypeId} {pos : String} {after : Array Edge} {gd : Option (Nat × Bool)}
theorem ev_loadFC {α : Type} [RowC α] {t : TypeId} {x : Operand} {A : Option Addr} {k i j s : Nat} (ht : CellT P t) (hx : a.eval x = ptrOf A (k * s + i + j)) {l : List α} (hr : HR w A (cellsOf l)) (hs : RowC.size α = s) (hk : k < l.length) {v : Value} (hv : nth (RowC.enc (gt l k)) (i + j) = some v) :
    (execOp a.eval ⟨dst, .load t x, ty, pos, after, gd⟩).run P w = .ok (.value v) w := ev_loadF (j := i + j) ht (by rw [hx, Nat.add_assoc]) hr hs hk hv
end
def YesNoC (w w' : World) (e : Ending) : Prop := (∃ b : Bool, e = .returned (.bool b)) ∧ Step nowhere w w'
set_option maxRecDepth 100000 in
set_option maxHeartbeats 3200000 in
theorem clarge_calls {A : Option Addr} {n c : Nat} {L : List EnvR} {w : World} [hr : HR w A (cellsOf L)] (hL : ∀ r ∈ L, EnvIn w r) (hl : L.length = n) (hmax : n ≤ 9223372036854775807) :
    Calls Tryz.prog 29 #[.slice A n c] w fun e w' => YesNoC w w' e := by
  have HL := Lib.hid hL
  have HLE := Lib.hid hl
  clear hL
  go_enter Tryz.func29, Tryz.ntmps29
  go_wp2_with fail
  go_loopw [3, 4] (fun nv iv wr => ∃ (k : Nat) (z : Int), k ≤ n ∧ nv = .int .i64 z ∧ iv = .int .i64 (k : Int) ∧ Step nowhere w wr) (fun _ iv _ => n - (intOf iv).toNat)
  case atStart => exact ⟨0, _, Nat.zero_le _, rfl, rfl, stepN⟩
  case round =>
    obtain ⟨k, z, hk, rfl, rfl, st⟩ := hrel
    have nr : Nw w wr := ⟨st.chg⟩
    by_cases hlt : k < n
    · have hltI : (k : Int) < n := by omega
      have hkl : k < L.length := by omega
      have hin := EnvIn.nw (w := wr) (HL.out _ (gt_mem L k hkl))
      have hm9 := hin.an
      have hb9 := hin.mn
      have hra : HR wr (gt L k).A (cellsOf (gt L k).l) := ⟨hin.ar⟩
      have hla := hin.al
      have hrw : HR wr A (cellsOf L) := inferInstance
      clear hin
      go_wp2_with (first | ((with_reducible apply (wpl_loadF (α := EnvR) (k := k) (j := 0) (s := 2))); infer_instance; (exact rfl); infer_instance; (exact rfl); (exact hkl); (exact env_body _)) | ((with_reducible apply (wpl_indexE (α := EnvR) (t := 75))); (exact rfl); (exact rfl); infer_instance; infer_instance; (first | (with_reducible assumption) | omega | (focus (simp; done)) | (focus (simp; omega; done)) | decide); (exact rfl); (decide); (first | (with_reducible assumption) | omega | (focus (simp; done)) | (focus (simp; omega; done)) | decide)) | ((with_reducible apply (wpl_fieldE (t := 133))); (exact Tryz.underlying133); (exact rfl); (kernel_rfl); (exact rfl); infer_instance; (exact cells_pos (by decide) (by omega))))
      go_loopw [3, 5] (fun nv jv wt => ∃ (j : Nat) (y : Int), j ≤ (gt L k).n ∧ nv = .int .i64 y ∧ jv = .int .i64 (j : Int) ∧ Step nowhere w wt) (fun _ jv _ => (gt L k).n - (intOf jv).toNat)
      case atStart => exact ⟨0, _, Nat.zero_le _, rfl, rfl, st⟩
      case round =>
        clear hra hrw nr
        obtain ⟨j, y, hj, rfl, rfl, st2⟩ := hrel
        have nt : Nw w wr := ⟨st2.chg⟩
        have hrt : HR wr A (cellsOf L) := inferInstance
        have hin2 := EnvIn.nw (w := wr) (HL.out _ (gt_mem L k hkl))
        have hra2 : HR wr (gt L k).A (cellsOf (gt L k).l) := ⟨hin2.ar⟩
        clear hin2
        by_cases hjt : j < (gt L k).n
        · have hjI : (j : Int) < (gt L k).n := by omega
          have hjl : j < (gt L k).l.length := by omega
          go_wp2_with (first | ((with_reducible apply (wpl_loadF (α := EnvR) (k := k) (j := 1) (s := 2))); infer_instance; (exact rfl); infer_instance; (exact rfl); (exact hkl); (exact env_marks _)) | ((with_reducible apply (wpl_indexE (α := EnvR) (t := 75))); (exact rfl); (exact rfl); infer_instance; infer_instance; (first | (with_reducible assumption) | omega | (focus (simp; done)) | (focus (simp; omega; done)) | decide); (exact rfl); (decide); (first | (with_reducible assumption) | omega | (focus (simp; done)) | (focus (simp; omega; done)) | decide)) | ((with_reducible apply (wpl_fieldE (t := 133))); (exact Tryz.underlying133); (exact rfl); (kernel_rfl); (exact rfl); infer_instance; (exact cells_pos (by decide) (by omega))))
          refine wp_region_N (nowhere) (by kernel_rfl) (fun wd _ _ => ?_)
          refine' takeH (i := 0) (v := _) rfl (by kernel_rfl) (by kernel_rfl) (by kernel_rfl) (fun _ _ _ h => h) (yields_of (by rfl) (fun w' _ => ?_)) inferInstance ?_
          rotate_left
          · (go_simp; try with_reducible rfl)
          try simp only [Act.put, sA]; try simp only [sB, sC]
          refine' takeH (i := 1) (v := _) rfl (by kernel_rfl) (by kernel_rfl) (by kernel_rfl) (fun _ _ _ h => h) (yields_of (by rfl) (fun w' _ => ?_)) inferInstance ?_
          rotate_left
          · (go_simp; try with_reducible rfl)
          try simp only [Act.put, sA]; try simp only [sB, sC]
          refine' takeH (i := 2) (v := _) rfl (by kernel_rfl) (by kernel_rfl) (by kernel_rfl) (fun _ _ _ h => h) (yields_of (by rfl) (fun w' _ => ?_)) inferInstance ?_
          rotate_left
          · (go_simp; try with_reducible rfl)
          try simp only [Act.put, sA]; try simp only [sB, sC]
          refine' takeH (i := 3) (v := _) rfl (by kernel_rfl) (by kernel_rfl) (by kernel_rfl) (fun _ _ _ h => h) (yields_of (by rfl) (fun w' _ => ?_)) inferInstance ?_
          rotate_left
          · ((with_reducible apply (ev_indexE (α := EnvR) (t := 75))); (exact rfl); (exact rfl); infer_instance; infer_instance; (first | (with_reducible assumption) | omega | (focus (simp; done)) | (focus (simp; omega; done)) | decide); (exact rfl); (decide); (first | (with_reducible assumption) | omega | (focus (simp; done)) | (focus (simp; omega; done)) | decide))
          try simp only [Act.put, sA]; try simp only [sB, sC]
          refine' takeH (i := 4) (v := _) rfl (by kernel_rfl) (by kernel_rfl) (by kernel_rfl) (fun _ _ _ h => h) (yields_of (by rfl) (fun w' _ => ?_)) inferInstance ?_
          rotate_left
          · ((with_reducible apply (ev_fieldE (t := 133))); (exact Tryz.underlying133); (exact rfl); (kernel_rfl); (exact rfl); infer_instance; (exact cells_pos (by decide) (by omega)))
          try simp only [Act.put, sA]; try simp only [sB, sC]
          refine' takeH (i := 5) (v := _) rfl (by kernel_rfl) (by kernel_rfl) (by kernel_rfl) (fun _ _ _ h => h) (yields_of (by rfl) (fun w' _ => ?_)) inferInstance ?_
          rotate_left
          · ((with_reducible apply (ev_loadF (α := EnvR))); infer_instance; (exact rfl); infer_instance; (exact rfl); (first | (with_reducible assumption) | omega | (focus (simp; done)) | (focus (simp; omega; done)) | decide); (exact rfl))
          try simp only [Act.put, sA]; try simp only [sB, sC]
          refine' takeH (i := 6) (v := _) rfl (by kernel_rfl) (by kernel_rfl) (by kernel_rfl) (fun _ _ _ h => h) (yields_of (by rfl) (fun w' _ => ?_)) inferInstance ?_
          rotate_left
          · (go_simp; try with_reducible rfl)
          try simp only [Act.put, sA]; try simp only [sB, sC]
          refine' takeH (i := 7) (v := _) rfl (by kernel_rfl) (by kernel_rfl) (by kernel_rfl) (fun _ _ _ h => h) (yields_of (by rfl) (fun w' _ => ?_)) inferInstance ?_
          rotate_left
          · ((with_reducible apply (ev_indexE (α := MarkR) (t := 131))); (exact rfl); (exact rfl); infer_instance; infer_instance; (first | (with_reducible assumption) | omega | (focus (simp; done)) | (focus (simp; omega; done)) | decide); (exact rfl); (decide); (first | (with_reducible assumption) | omega | (focus (simp; done)) | (focus (simp; omega; done)) | decide))
          try simp only [Act.put, sA]; try simp only [sB, sC]
          refine' takeH (i := 8) (v := _) rfl (by kernel_rfl) (by kernel_rfl) (by kernel_rfl) (fun _ _ _ h => h) (yields_of (by rfl) (fun w' _ => ?_)) inferInstance ?_
          rotate_left
          · ((with_reducible apply (ev_fieldE (t := 137))); (exact Tryz.underlying137); (exact rfl); (kernel_rfl); (exact rfl); infer_instance; (exact cells_pos (by decide) (by omega)))
          try simp only [Act.put, sA]; try simp only [sB, sC]
          refine' takeH (i := 9) (v := _) rfl (by kernel_rfl) (by kernel_rfl) (by kernel_rfl) (fun _ _ _ h => h) (yields_of (by rfl) (fun w' _ => ?_)) inferInstance ?_
          rotate_left
          · ((with_reducible apply (ev_fieldE (t := 135))); (exact Tryz.underlying135); (exact rfl); (kernel_rfl); (exact rfl); infer_instance; (exact cells_pos (by decide) (by omega)))
          try simp only [Act.put, sA]; try simp only [sB, sC]
          refine' takeH (i := 10) (v := _) rfl (by kernel_rfl) (by kernel_rfl) (by kernel_rfl) (fun _ _ _ h => h) (yields_of (by rfl) (fun w' _ => ?_)) inferInstance ?_
          rotate_left
          · ((with_reducible apply (ev_loadFC (α := MarkR) (s := 35) (t := 40))); infer_instance; (exact rfl); infer_instance; (exact rfl); (first | (with_reducible assumption) | omega); (first | (exact markc_chains _) | (exact markc_path _)))
          try simp only [Act.put, sA]; try simp only [sB, sC]
          refine' takeH (i := 11) (v := _) rfl (by kernel_rfl) (by kernel_rfl) (by kernel_rfl) (fun _ _ _ h => h) (yields_of (by rfl) (fun w' _ => ?_)) inferInstance ?_
          rotate_left
          · (go_simp; try with_reducible rfl)
          try simp only [Act.put, sA]; try simp only [sB, sC]
          refine' takeH (i := 12) (v := _) rfl (by kernel_rfl) (by kernel_rfl) (by kernel_rfl) (fun _ _ _ h => h) (yields_of (by rfl) (fun w' _ => ?_)) inferInstance ?_
          rotate_left
          · (go_simp; try with_reducible rfl)
          try simp only [Act.put, sA]; try simp only [sB, sC]
          refine' takeH (i := 13) (v := _) rfl (by kernel_rfl) (by kernel_rfl) (by kernel_rfl) (fun _ _ _ h => h) (yields_of (by rfl) (fun w' _ => ?_)) inferInstance ?_
          rotate_left
          · (go_simp; try with_reducible rfl)
          try simp only [Act.put, sA]; try simp only [sB, sC]
          refine' takeH (i := 14) (v := _) rfl (by kernel_rfl) (by kernel_rfl) (by kernel_rfl) (fun _ _ _ h => h) (yields_of (by rfl) (fun w' _ => ?_)) inferInstance ?_
          rotate_left
          · (go_simp; try with_reducible rfl)
          try simp only [Act.put, sA]; try simp only [sB, sC]
          refine' takeH (i := 15) (v := _) rfl (by kernel_rfl) (by kernel_rfl) (by kernel_rfl) (fun _ _ _ h => h) (yields_of (by rfl) (fun w' _ => ?_)) inferInstance ?_
          rotate_left
          · (go_simp; try with_reducible rfl)
          try simp only [Act.put, sA]; try simp only [sB, sC]
          refine' takeH (i := 16) (v := _) rfl (by kernel_rfl) (by kernel_rfl) (by kernel_rfl) (fun _ _ _ h => h) (yields_of (by rfl) (fun w' _ => ?_)) inferInstance ?_
          rotate_left
          · ((with_reducible apply (ev_indexE (α := EnvR) (t := 75))); (exact rfl); (exact rfl); infer_instance; infer_instance; (first | (with_reducible assumption) | omega | (focus (simp; done)) | (focus (simp; omega; done)) | decide); (exact rfl); (decide); (first | (with_reducible assumption) | omega | (focus (simp; done)) | (focus (simp; omega; done)) | decide))
          try simp only [Act.put, sA]; try simp only [sB, sC]
          refine' takeH (i := 17) (v := _) rfl (by kernel_rfl) (by kernel_rfl) (by kernel_rfl) (fun _ _ _ h => h) (yields_of (by rfl) (fun w' _ => ?_)) inferInstance ?_
          rotate_left
          · ((with_reducible apply (ev_fieldE (t := 133))); (exact Tryz.underlying133); (exact rfl); (kernel_rfl); (exact rfl); infer_instance; (exact cells_pos (by decide) (by omega)))
          try simp only [Act.put, sA]; try simp only [sB, sC]
          refine' takeH (i := 18) (v := _) rfl (by kernel_rfl) (by kernel_rfl) (by kernel_rfl) (fun _ _ _ h => h) (yields_of (by rfl) (fun w' _ => ?_)) inferInstance ?_
          rotate_left
          · ((with_reducible apply (ev_loadF (α := EnvR))); infer_instance; (exact rfl); infer_instance; (exact rfl); (first | (with_reducible assumption) | omega | (focus (simp; done)) | (focus (simp; omega; done)) | decide); (exact rfl))
          try simp only [Act.put, sA]; try simp only [sB, sC]
          refine' takeH (i := 19) (v := _) rfl (by kernel_rfl) (by kernel_rfl) (by kernel_rfl) (fun _ _ _ h => h) (yields_of (by rfl) (fun w' _ => ?_)) inferInstance ?_
          rotate_left
          · (go_simp; try with_reducible rfl)
          try simp only [Act.put, sA]; try simp only [sB, sC]
          refine' takeH (i := 20) (v := _) rfl (by kernel_rfl) (by kernel_rfl) (by kernel_rfl) (fun _ _ _ h => h) (yields_of (by rfl) (fun w' _ => ?_)) inferInstance ?_
          rotate_left
          · ((with_reducible apply (ev_indexE (α := MarkR) (t := 131))); (exact rfl); (exact rfl); infer_instance; infer_instance; (first | (with_reducible assumption) | omega | (focus (simp; done)) | (focus (simp; omega; done)) | decide); (exact rfl); (decide); (first | (with_reducible assumption) | omega | (focus (simp; done)) | (focus (simp; omega; done)) | decide))
          try simp only [Act.put, sA]; try simp only [sB, sC]
          refine' takeH (i := 21) (v := _) rfl (by kernel_rfl) (by kernel_rfl) (by kernel_rfl) (fun _ _ _ h => h) (yields_of (by rfl) (fun w' _ => ?_)) inferInstance ?_
          rotate_left
          · ((with_reducible apply (ev_fieldE (t := 137))); (exact Tryz.underlying137); (exact rfl); (kernel_rfl); (exact rfl); infer_instance; (exact cells_pos (by decide) (by omega)))
          try simp only [Act.put, sA]; try simp only [sB, sC]
          refine' takeH (i := 22) (v := _) rfl (by kernel_rfl) (by kernel_rfl) (by kernel_rfl) (fun _ _ _ h => h) (yields_of (by rfl) (fun w' _ => ?_)) inferInstance ?_
          rotate_left
          · ((with_reducible apply (ev_fieldE (t := 135))); (exact Tryz.underlying135); (exact rfl); (kernel_rfl); (exact rfl); infer_instance; (exact cells_pos (by decide) (by omega)))
          try simp only [Act.put, sA]; try simp only [sB, sC]
          refine' takeH (i := 23) (v := _) rfl (by kernel_rfl) (by kernel_rfl) (by kernel_rfl) (fun _ _ _ h => h) (yields_of (by rfl) (fun w' _ => ?_)) inferInstance ?_
          rotate_left
          · ((with_reducible apply (ev_loadFC (α := MarkR) (s := 35) (t := 40))); infer_instance; (exact rfl); infer_instance; (exact rfl); (first | (with_reducible assumption) | omega); (first | (exact markc_chains _) | (exact markc_path _)))
          try simp only [Act.put, sA]; try simp only [sB, sC]
          refine' takeH (i := 24) (v := _) rfl (by kernel_rfl) (by kernel_rfl) (by kernel_rfl) (fun _ _ _ h => h) (yields_of (by rfl) (fun w' _ => ?_)) inferInstance ?_
          rotate_left
          · (go_simp; try with_reducible rfl)
          try simp only [Act.put, sA]; try simp only [sB, sC]
          refine' takeH (i := 25) (v := _) rfl (by kernel_rfl) (by kernel_rfl) (by kernel_rfl) (fun _ _ _ h => h) (yields_of (by rfl) (fun w' _ => ?_)) inferInstance ?_
          rotate_left
          · (go_simp; try with_reducible rfl)
          try simp only [Act.put, sA]; try simp only [sB, sC]
          refine' takeH (i := 26) (v := _) rfl (by kernel_rfl) (by kernel_rfl) (by kernel_rfl) (fun _ _ _ h => h) (yields_of (by rfl) (fun w' _ => ?_)) inferInstance ?_
          rotate_left
          · (go_simp; try with_reducible rfl)
          try simp only [Act.put, sA]; try simp only [sB, sC]
          refine' takeH (i := 27) (v := _) rfl (by kernel_rfl) (by kernel_rfl) (by kernel_rfl) (fun _ _ _ h => h) (yields_of (by rfl) (fun w' _ => ?_)) inferInstance ?_
          rotate_left
          · (go_simp; try with_reducible rfl)
          try simp only [Act.put, sA]; try simp only [sB, sC]
          refine wpAnyH_done (by kernel_rfl) ?_ _
          go_wp2_with fail
          exact ⟨⟨j + 1, _, by omega, rfl, by go_num, stepN⟩, by simp [intOf]; omega⟩
        · have hjI : ¬ (j : Int) < (gt L k).n := by omega
          go_wp2_with (first | ((with_reducible apply (wpl_loadF (α := EnvR) (k := k) (j := 1) (s := 2))); infer_instance; (exact rfl); infer_instance; (exact rfl); (exact hkl); (exact env_marks _)) | ((with_reducible apply (wpl_indexE (α := EnvR) (t := 75))); (exact rfl); (exact rfl); infer_instance; infer_instance; (first | (with_reducible assumption) | omega | (focus (simp; done)) | (focus (simp; omega; done)) | decide); (exact rfl); (decide); (first | (with_reducible assumption) | omega | (focus (simp; done)) | (focus (simp; omega; done)) | decide)) | ((with_reducible apply (wpl_fieldE (t := 133))); (exact Tryz.underlying133); (exact rfl); (kernel_rfl); (exact rfl); infer_instance; (exact cells_pos (by decide) (by omega))))
          exact ⟨⟨k + 1, _, by omega, rfl, by go_num, stepN⟩, by simp [intOf]; omega⟩
    · have hltI : ¬ (k : Int) < n := by omega
      go_wp2_with fail
      go_ret
      exact ⟨⟨_, rfl⟩, stepN⟩
theorem rt_slice (v e : Int) (K : List KR) (i : Nat) (h : i < K.length) : nth (rtL v e K) (2 + i * 2) = some (.slice (gt K i).A (gt K i).n (gt K i).c) := by
  rw [← nth_get, rtL, show 2 + i * 2 = (i * 2 + 1) + 1 by omega, List.getElem?_cons_succ, List.getElem?_cons_succ]
  have h1 := cellsOf_at K i h
  have h2 : (((cellsOf K).drop (i * 2)).take 2)[0]? = (RowC.enc (gt K i))[0]? := by
    rw [show ((cellsOf K).drop (i * 2)).take 2 = RowC.enc (gt K i) from h1]
  rw [List.getElem?_take, if_pos (by decide), List.getElem?_drop] at h2
  exact h2
set_option maxRecDepth 100000 in
set_option maxHeartbeats 1600000 in
theorem cmany_calls (v e0 : Int) {K : List KR} {w : World} (h4 : K.length = 4) (hK : ∀ k ∈ K, k.n ≤ 4398046511104) :
    Calls Tryz.prog 30 #[.agg (rtL v e0 K).toArray] w fun e w' => e = .returned (.bool (decide (60 < sumK K))) ∧ Step nowhere w w' := by
  have H4 := Lib.hid h4
  have HK := Lib.hid hK
  have hlen := rtL_len v e0 K h4
  have hone := rtL_one v e0 K
  obtain ⟨R, hR⟩ : ∃ R, R = decide (60 < sumK K) := ⟨_, rfl⟩
  have HRR := Lib.hid hR
  rw [← hR]
  clear hK hR
  go_enter Tryz.func30, Tryz.ntmps30
  go_wp2_with (first | ((with_reducible apply (wpl_box_agg (dst := some 1))); (exact rfl); intro zt wzt _ _ _))
  go_loopw [3, 4] (fun sv iv wr => ∃ k : Nat, k ≤ 4 ∧ iv = .int .i64 (k : Int) ∧ ∃ m : Nat, sv = .int .i64 (m : Int) ∧ Hid (m = sumK (K.take k)) ∧ m ≤ 4398046511104 * k ∧ Step nowhere w wr ∧ HB wr zt 45 (rtL v e0 K).toArray) (fun _ iv _ => 4 - (intOf iv).toNat)
  case atStart => exact ⟨0, Nat.zero_le _, rfl, 0, rfl, Lib.hid rfl, Nat.zero_le _, stepN, inferInstance⟩
  case round =>
    obtain ⟨k, hk, rfl, m, rfl, HS, hml, st, ht⟩ := hrel
    by_cases hlt : k < 4
    · have hltI : (k : Int) < 4 := by omega
      have hkl : k < K.length := by omega
      have hkn := HK.out _ (gt_mem K k hkl)
      have HS2 : Hid (m + (gt K k).n = sumK (K.take (k + 1))) := Lib.hid (by rw [sumK_take K k hkl, HS.out])
      have hnt := rt_slice v e0 K k hkl
      go_wp2_with (first | ((with_reducible apply (wpl_indexRK (i := k) (m := 4))); (exact rfl); (exact rfl); (exact Tryz.underlying43); (kernel_rfl); (exact hlt)) | ((with_reducible apply (wpl_loadcellN (k := 2 + k * 2))); (exact rfl); (exact ht); (exact hnt)))
      exact ⟨⟨k + 1, by omega, by go_num, m + (gt K k).n, by go_num, HS2, by omega, stepN, inferInstance⟩, by simp [intOf]; omega⟩
    · have hltI : ¬ (k : Int) < 4 := by omega
      have hk4 : k = 4 := by omega
      have hfin : Hid (R = decide (60 < m)) := Lib.hid (by
        have h1 := HS.out
        rw [List.take_of_length_le (by omega)] at h1
        rw [HRR.out, h1])
      clear hk4
      by_cases hm : 60 < m
      · have hmI : 60 < (m : Int) := by omega
        have HF : Hid (R = true) := Lib.hid (by rw [hfin.out, decide_eq_true hm])
        clear hm
        go_wp2_with fail
        go_ret
        rw [HF.out]
        exact ⟨rfl, stepN⟩
      · have hmI : ¬ 60 < (m : Int) := by omega
        have HF : Hid (R = false) := Lib.hid (by rw [hfin.out, decide_eq_false hm])
        clear hm
        go_wp2_with fail
        go_ret
        rw [HF.out]
        exact ⟨rfl, stepN⟩
set_option maxRecDepth 100000 in
theorem fresh_calls (v e0 now : Int) (K : List KR) (h4 : K.length = 4) (w : World) :
    Calls Tryz.prog 81 #[.agg (rtL v e0 K).toArray, .int .i64 now] w fun e w' => e = .returned (.bool (decide (now < e0))) ∧ Step nowhere w w' := by
  have hlen := rtL_len v e0 K h4
  have hone := rtL_one v e0 K
  by_cases h : now < e0
  · rw [decide_eq_true h]
    go_enter Tryz.func81, Tryz.ntmps81
    go_wp2_with (first | ((with_reducible apply (wpl_box_agg (dst := some 2))); (exact rfl); intro zt wzt _ _ _) | ((with_reducible apply wpl_loadcellN); (exact rfl); infer_instance; (exact rfl)))
    go_ret
    exact ⟨rfl, stepN⟩
  · rw [decide_eq_false h]
    go_enter Tryz.func81, Tryz.ntmps81
    go_wp2_with (first | ((with_reducible apply (wpl_box_agg (dst := some 2))); (exact rfl); intro zt wzt _ _ _) | ((with_reducible apply wpl_loadcellN); (exact rfl); infer_instance; (exact rfl)))
    go_ret
    exact ⟨rfl, stepN⟩
set_option maxRecDepth 100000 in
theorem cknown_calls (w : World) : Calls Tryz.prog 33 #[] w fun e w' => e = .returned (.bool true) ∧ Step nowhere w w' := by
  have kb : ∀ w, (Instr.build 45 #[(1, .int .i64 5)]).run Tryz.prog w = .ok (.agg (rtL 0 5 noK).toArray) w := fun _ => by kernel_rfl
  go_enter Tryz.func33, Tryz.ntmps33
  go_wp2_with (first | ((with_reducible apply wpl_build); (exact kb _)))
  refine (fresh_calls 0 5 4 noK rfl _).mono ?_
  rw [show decide ((4 : Int) < 5) = true by decide]
  rintro e w1 ⟨rfl, _⟩
  go_wp2_with (first | ((with_reducible apply wpl_build); (exact kb _)) | ((with_reducible apply (wpl_guard (op := .build _ _))); (exact rfl)))
  refine (fresh_calls 0 5 5 noK rfl _).mono ?_
  rw [show decide ((5 : Int) < 5) = false by decide]
  rintro e w2 ⟨rfl, _⟩
  go_wp2_with fail
  go_ret
  exact ⟨rfl, stepN⟩
end Go.Proofs.YthcleccofccbdaaGreat
