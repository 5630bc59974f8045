/- Conv, SlL, SlK, SlN -/
import Derived.Test.YtegdihpnefoolaaThBase
import Derived.Laws.BytesArg
import Derived.Laws.BytesString
import Derived.Test.YtegdihpnefoolaaThSlJ
import Derived.Lib.SlBytesConst
section
open Go Go.RowKit
namespace Go.Proofs.Ytegdihpnefoolaa
def strL (xs : List UInt8) : ByteArray := ⟨xs.toArray⟩
theorem list_loop (a : ByteArray) : ∀ (m i : Nat) (r : List UInt8), m = a.size - i → ByteArray.toList.loop a i r = r.reverse ++ a.data.toList.drop i
  | 0, i, r, h => by
    have hsz : a.data.toList.length = a.size := Array.length_toList
    rw [ByteArray.toList.loop, if_neg (by omega), List.drop_of_length_le (by omega), List.append_nil]
  | m + 1, i, r, h => by
    rw [ByteArray.toList.loop, if_pos (by omega), list_loop a m (i + 1) _ (by omega)]
    have hsz : a.data.toList.length = a.size := Array.length_toList
    have hi : i < a.data.toList.length := by omega
    rw [List.drop_eq_getElem_cons hi]
    have e : a.get! i = a.data.toList[i] := by
      simp only [ByteArray.get!]
      rw [getElem!_pos a.data i (by simpa using hi)]
      simp
    rw [e]
    simp
theorem strL_list (xs : List UInt8) : (strL xs).toList = xs := by
  show ByteArray.toList.loop (strL xs) 0 [] = xs
  rw [list_loop (strL xs) _ 0 [] rfl]
  simp [strL]
section
variable {P : Program} {ops : Array Oper} {rest : List Oper} {a : Act} {w : World} {Q : Exit → Act → World → Prop} {dst : Option Tmp} {ty : TypeId} {pos : String} {after : Array Edge}
theorem foldl_push (xs : List UInt8) (b : ByteArray) : (xs.map fun x => (x.toNat : Int)).foldl (fun a n => a.push (UInt8.ofNat n.toNat)) b = ⟨b.data ++ xs.toArray⟩ := by
  induction xs generalizing b with
  | nil => simp
  | cons x xs ih =>
    rw [List.map_cons, List.foldl_cons, ih]
    congr 1
    apply Array.ext'
    simp [ByteArray.push]
theorem run_convS {src td e : TypeId} {A : Option Addr} {n c : Nat} {xs : List UInt8} (hr : Rd w A (bs xs)) (hn : xs.length = n)
    (hs : P.underlying src = some (.slice e)) (he : P.underlying e = some (.int .u8)) (hd : P.underlying td = some .string) : (convert src td (.slice A n c)).run P w = .ok (.string (strL xs)) w := by
  cases A with
  | none =>
    have hx : xs = [] := by
      cases xs with
      | nil => rfl
      | cons x l => obtain ⟨ad, h, _⟩ := hr 0 _ rfl; cases h
    subst hx
    subst hn
    exact run_convert_bytes_nil w src e hs he _ c td hd
  | some ad =>
    have hl : (loadCells ad n).run P w = .ok ((xs.map fun x => (x.toNat : Int)).map (Value.int .u8)).toArray w := by
      have h := run_loadCells_list (P := P) w ad (bs xs) (fun j v hv => by
        obtain ⟨ad', e1, e2⟩ := hr j v hv
        injection e1 with e1
        subst e1
        exact e2)
      rw [bs_length, hn] at h
      rw [h, List.map_map]
      rfl
    rw [run_convert_bytes_string w src td e ad n c hs he hd, run_bytesToString w ad n c _ hl, foldl_push]
    simp [strL]
theorem wpl_conv {src td e : TypeId} {x : Operand} {A : Option Addr} {n c : Nat} {xs : List UInt8} (hx : a.eval x = .slice A n c) (hr : HR w A (bs xs)) (hn : xs.length = n)
    (hs : P.underlying src = some (.slice e)) (he : P.underlying e = some (.int .u8)) (hd : P.underlying td = some .string)
    (h : wpList P ops Q rest (a.put dst (.string (strL xs))) w) : wpList P ops Q (⟨dst, .convert src td x, ty, pos, after, none⟩ :: rest) a w :=
  wpl_of_run rfl (by
    show ((convert src td (a.eval x)) >>= fun v => pure (Next.value v)).run P w = _
    rw [hx, Sem.run_bind, run_convS hr.out hn hs he hd]
    rfl) h
theorem ev_conv {gd : Option (Nat × Bool)} {src td e : TypeId} {x : Operand} {A : Option Addr} {n c : Nat} {xs : List UInt8} (hx : a.eval x = .slice A n c) (hr : HR w A (bs xs)) (hn : xs.length = n)
    (hs : P.underlying src = some (.slice e)) (he : P.underlying e = some (.int .u8)) (hd : P.underlying td = some .string) : (execOp a.eval ⟨dst, .convert src td x, ty, pos, after, gd⟩).run P w = .ok (.value (.string (strL xs))) w := by
  show ((convert src td (a.eval x)) >>= fun v => pure (Next.value v)).run P w = _
  rw [hx, Sem.run_bind, run_convS hr.out hn hs he hd]
  rfl
end
end Go.Proofs.Ytegdihpnefoolaa
end
section
open Go Go.RowKit
namespace Go.Proofs.Ytegdihpnefoolaa
section
variable {P : Program} {ops : Array Oper} {rest : List Oper} {a : Act} {w : World} {Q : Exit → Act → World → Prop}
theorem hr_marked (w : World) (cs : Array Value) (e : TypeId) (r : Nat × Nat) : HR (w.alloc (.cells cs e r)) (some ⟨w.heap.size, 0, none⟩) cs.toList := ⟨fun k u hk => by
  refine ⟨_, rfl, ?_⟩
  rw [add_row]
  have hk' : cs[k]? = some u := by simpa using hk
  have e1 := World.alloc_heap_new w (.cells cs e r)
  simp only [World.cell?, e1]
  exact hk'⟩
theorem wpl_lit {t e : TypeId} {len : Nat} {ps : List (Nat × Operand)} {cs : Array Value} {d1 d2 : Option Tmp} {ty1 ty2 : TypeId} {pos1 pos2 : String} {af1 af2 : Array Edge} {x : Operand}
    (hr : (Instr.buildSlice t len (ps.map fun (i, x) => (i, a.eval x)).toArray).run P w = .ok (.slice (some ⟨w.heap.size, 0, none⟩) len len) (w.alloc (.cells cs e)))
    (hx : ∀ v, (a.put d1 v).eval x = v) (ht : P.underlying t = some (.slice e)) (he : P.underlying e = some (.int .u8))
    (h : ∀ g w', Born w g → Step nowhere w w' → HR w' (some ⟨g, 0, none⟩) cs.toList → wpList P ops Q rest ((a.put d1 (.slice (some ⟨g, 0, none⟩) len len)).put d2 (.slice (some ⟨g, 0, none⟩) len len)) w') :
    wpList P ops Q (⟨d1, .buildSlice t len ps.toArray, ty1, pos1, af1, none⟩ :: ⟨d2, .convert t t x, ty2, pos2, af2, none⟩ :: rest) a w :=
  wpl_of_run rfl (by
    show ((Instr.buildSlice t len (ps.toArray.map fun (i, x) => (i, a.eval x))) >>= fun v => pure (Next.value v)).run P w = _
    rw [Sem.run_bind, List.map_toArray, hr]
    rfl) (wpl_of_run rfl (by
    show ((convert t t ((a.put d1 (.slice (some ⟨w.heap.size, 0, none⟩) len len)).eval x)) >>= fun v => pure (Next.value v)).run P (w.alloc (.cells cs e)) = _
    rw [hx, Sem.run_bind, Lib.run_convert_bytes_const w t e cs len len ht he]
    rfl) (h w.heap.size _ ⟨rfl⟩ ⟨(Chg.refl _ _).alloc _⟩ (hr_marked w cs e _)))
end
end Go.Proofs.Ytegdihpnefoolaa
end
section
open Go Go.RowKit
namespace Go.Proofs.Ytegdihpnefoolaa
/-- a flash that lives, whose newest record is this -/
structure SlotAt (w : World) (g p N n : Nat) (b : List UInt8) : Prop where
  ex : ∃ s, FlashAt w g p N s ∧ live s ∧ (bestS s).2 = (n, b)
  big : 80 ≤ N
theorem SlotAt.chg {S : Nat → Prop} {w w' : World} {g p N n : Nat} {b : List UInt8} (h : SlotAt w g p N n b) (c : Chg S w w') (hg : ¬ S g) (hp : ¬ S p) : SlotAt w' g p N n b := by
  obtain ⟨⟨s, h1, h2, h3⟩, h4⟩ := h
  exact ⟨⟨s, h1.chg c hg hp, h2, h3⟩, h4⟩
theorem SlotAt.calm {w w' : World} {g p N n : Nat} {b : List UInt8} (h : SlotAt w g p N n b) (c : Chg nowhere w w') : SlotAt w' g p N n b := h.chg c (fun h => h) (fun h => h)
theorem SlotAt.lts {w : World} {g p N n : Nat} {b : List UInt8} (h : SlotAt w g p N n b) : g < w.heap.size ∧ p < w.heap.size := by
  obtain ⟨⟨s, h1, _⟩, _⟩ := h
  exact h1.lts
section
variable {w : World} {g p N n : Nat} {b : List UInt8}
theorem slNew_calls (w : World) : Calls Try.prog 11 #[.int .i64 80] w fun e w' => ∃ g p, e = .returned (.pointer (some ⟨g, 0, none⟩)) ∧ Hid (SlotAt w' g p 80 0 []) ∧ Step nowhere w w' ∧ w.heap.size ≤ g ∧ w.heap.size ≤ p :=
  (New_calls 80 w (by decide) (by decide)).mono fun _ _ ⟨g, p, h1, h2, h3, h4, h5⟩ => ⟨g, p, h1, Lib.hid ⟨⟨_, h2.out, fresh_live 80, by rw [fresh_best 80 (by decide)]⟩, by decide⟩, ⟨h3.out⟩, h4, h5⟩
theorem slSave_calls {A : Option Addr} {m c : Nat} {x : List UInt8} (h : SlotAt w g p N n b) [hr : HR w A (bs x)] (hl : x.length = m) (hm : m ≤ 2500) (hn : n < 1073741824) :
    Calls Try.prog 18 #[.pointer (some ⟨g, 0, none⟩), .slice A m c] w fun e w' => e = .returned (.int .i64 0) ∧ Hid (SlotAt w' g p N (n + 1) x) ∧ Step (Two g p) w w' := by
  obtain ⟨⟨s, h1, h2, h3⟩, h4⟩ := h
  have hb1 : (bestS s).2.1 = n := by rw [h3]
  obtain ⟨t, g1, g2, g3⟩ := save_live (b := x) h1.ok h4 h2 (by omega) (by omega)
  refine (save_calls (A := A) (n := m) (c := c) (b := x) h1 h4 hl (by omega)).mono ?_
  rw [g1]
  rintro e w' ⟨rfl, k1, k2⟩
  exact ⟨rfl, Lib.hid ⟨⟨t, k1, g2, by rw [g3 k1.ok, hb1]⟩, h4⟩, k2⟩
theorem slLoad_calls (h : SlotAt w g p N n b) (hn : n ≠ 0) :
    Calls Try.prog 21 #[.pointer (some ⟨g, 0, none⟩)] w fun e w' => ∃ B m d, e = .returned (.tuple #[.slice B m d, .int .i64 (n : Int), .int .i64 0]) ∧ b.length = m ∧ m ≤ d ∧ HR w' B (bs b) ∧ NewA w B ∧ Step nowhere w w' := by
  obtain ⟨⟨s, h1, h2, h3⟩, h4⟩ := h
  refine (load_calls h1 h4).mono ?_
  unfold LoadPost
  rw [h3, if_neg hn]
  exact fun _ _ h => h
end
theorem above_two {w : World} {g p : Nat} (hg : w.heap.size ≤ g) (hp : w.heap.size ≤ p) : Above w (Two g p) := ⟨fun k h => by rcases h with h | h <;> omega⟩
theorem run_byte1 (x : UInt8) (w : World) : (Instr.buildSlice 22 1 #[(0, .int .u8 (x.toNat : Int))]).run Try.prog w = .ok (.slice (some ⟨w.heap.size, 0, none⟩) 1 1) (w.alloc (.cells (u8s [x]) 5)) := by kernel_rfl
theorem strL_self (l : List UInt8) : ((strL l).toList == l) = true := by rw [strL_list]; simp
set_option maxRecDepth 100000 in
set_option maxHeartbeats 1600000 in
theorem slKnown_calls (w : World) : Calls Try.prog 17 #[] w fun e w' => e = .returned (.bool true) ∧ Step nowhere w w' := by
  have kba := run_byte1 97
  have kbb := run_byte1 98
  have he := strL_self [98]
  go_enter Try.func17, Try.ntmps17
  go_wp2_with (first | go_skip | ((with_reducible apply (wpl_guard (op := .convert _ _ _))); (exact rfl)))
  refine (slNew_calls _).mono ?_
  rintro e w1 ⟨g, p, rfl, h1, _, hg, hp⟩
  have ab := above_two hg hp
  go_wp2_with (first | go_skip | ((with_reducible apply (wpl_lit (d1 := some 11))); (exact kba _); (exact fun _ => rfl); (exact Try.underlying22); (exact Try.underlying5); intro za wb _ _ _) | ((with_reducible apply (wpl_guard (op := .convert _ _ _))); (exact rfl)))
  have hra : HR wb (some ⟨za, 0, none⟩) (bs [97]) := inferInstance
  have h1b : SlotAt wb g p 80 0 [] := h1.out.calm (inferInstance : Step nowhere w1 wb).chg
  refine (slSave_calls (A := some ⟨za, 0, none⟩) (m := 1) (c := 1) (x := [97]) h1b rfl (by decide) (by decide)).mono ?_
  rintro e w2 ⟨rfl, h2, _⟩
  go_wp2_with (first | go_skip | ((with_reducible apply (wpl_lit (d1 := some 15))); (exact kbb _); (exact fun _ => rfl); (exact Try.underlying22); (exact Try.underlying5); intro zb wb _ _ _) | ((with_reducible apply (wpl_guard (op := .convert _ _ _))); (exact rfl)))
  have hrb : HR wb (some ⟨zb, 0, none⟩) (bs [98]) := inferInstance
  have h2b : SlotAt wb g p 80 (0 + 1) [97] := h2.out.calm (inferInstance : Step nowhere w2 wb).chg
  refine (slSave_calls (A := some ⟨zb, 0, none⟩) (m := 1) (c := 1) (x := [98]) h2b rfl (by decide) (by decide)).mono ?_
  rintro e w3 ⟨rfl, h3, _⟩
  go_wp2_with (first | go_skip | ((with_reducible apply (wpl_guard (op := .convert _ _ _))); (exact rfl)))
  refine (slLoad_calls h3.out (by decide)).mono ?_
  rintro e w4 ⟨B, m, d, rfl, hm, hmd, _, hnB, _⟩
  go_wp2_with (first | go_skip | ((with_reducible apply (wpl_guard (op := .convert _ _ _))); (exact rfl)) | ((with_reducible apply wpl_conv); (exact rfl); infer_instance; (first | (with_reducible assumption) | (focus (simp; done)) | omega); (exact Try.underlying22); (exact Try.underlying5); (exact Try.underlying9)))
  go_ret
  exact ⟨rfl, stepN⟩
end Go.Proofs.Ytegdihpnefoolaa
end
section
open Go Go.RowKit
namespace Go.Proofs.Ytegdihpnefoolaa
theorem bestK_pages {s t : FS} (h : t.pages = s.pages) : ∀ k, bestK t k = bestK s k
  | 0 => rfl
  | k + 1 => by
    have e : slotB t k = slotB s k := by unfold slotB; rw [h]
    rw [bestK, bestK, e, bestK_pages h k]
theorem bestS_pages {s t : FS} (h : t.pages = s.pages) : bestS t = bestS s := bestK_pages h 2
end Go.Proofs.Ytegdihpnefoolaa
end
