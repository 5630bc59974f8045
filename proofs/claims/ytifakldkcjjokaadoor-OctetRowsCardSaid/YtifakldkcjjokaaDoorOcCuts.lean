/- Rows whose bytes are cut short (the law OctetCuts). -/
import Derived.Test.YtifakldkcjjokaaDoorOcNums
open Go Go.RowKit
namespace Go.Proofs.YtifakldkcjjokaaDoor
theorem RS.num_le (s : RS) : s.num.2.b.length ≤ s.b.length := by
  have key : ∀ (l : List UInt8) i acc n r, parse i acc l = some (n, r) → r.length ≤ l.length := by
    intro l
    induction l with
    | nil => intro i acc n r h; rw [parse] at h; cases h
    | cons b l ih =>
      intro i acc n r h
      rw [parse] at h
      split at h
      · cases h
      · split at h
        · have := ih _ _ _ _ h; simp; omega
        · split at h
          · cases h
          · injection h with h; injection h with h1 h2; subst h2; simp
  unfold RS.num
  split
  · exact Nat.le_refl _
  · split
    · rename_i n r h
      exact key _ _ _ _ _ h
    · simp [RS.bad]
theorem rBytes_calls (g d : Nat) (s : RS) (w : World) (h : RdrAt w g d s) (hl : s.b.length ≤ 1000000000000) :
    Calls Tryd.prog 27 #[.pointer (some ⟨g, 0, none⟩)] w fun e w' => ∃ A n c, e = .returned (.slice A n c) ∧ Hid (n = s.row.1.length) ∧
      Hid (Own w' 5 1 A n c (bs s.row.1)) ∧ Hid (RdrAt w' g d s.row.2) ∧ Hid (Chg (fun k => k = g) w w') ∧ Hid (∀ ad, A = some ad → w.heap.size ≤ ad.block) := by
  have H := Lib.hid h
  have HL := Lib.hid hl
  clear h hl
  go_enter Tryd.func27, Tryd.ntmps27
  go_wp2_with fail
  refine (Num_calls g d s _ H.out HL.out).mono ?_
  rintro e w1 ⟨rfl, h1, h2⟩
  go_wp2_with fail
  refine (Raw_calls g d s.num.2 s.num.1 _ h1.out (Nat.le_trans s.num_le HL.out)).mono ?_
  rintro e w2 ⟨A, n, c, rfl, h3, h4, h5, h6, h7⟩
  go_wp2_with fail
  go_ret
  exact ⟨A, n, c, rfl, h3, h4, h5, h2.out.trans h6.out (fun _ _ h => h), fun ad e => by have h8 := h7.out ad e; have h9 := h2.out.size; omega⟩
theorem parse_short (n : Nat) : ∀ (m i acc : Nat), m < (enc n).length → parse i acc ((enc n).take m) = none := by
  induction n using Nat.strongRecOn with
  | _ n ih =>
    intro m i acc hm
    by_cases h : n < 128
    · rw [enc_small h] at hm ⊢
      have : m = 0 := by simp at hm; omega
      subst this
      rw [List.take_zero, parse]
    · rw [enc_large h] at hm ⊢
      cases m with
      | zero => rw [List.take_zero, parse]
      | succ m =>
        rw [List.take_succ_cons]
        have hb : (UInt8.ofNat (n % 128 + 128)).toNat = n % 128 + 128 := by simp; omega
        rcases Nat.lt_or_ge i 9 with hi | hi
        · rw [parse_more hi (by rw [hb]; omega)]
          exact ih (n / 128) (by omega) m _ _ (by simpa using hm)
        · exact parse_long hi
theorem row_cut (p rest : List UInt8) (m : Nat) (hp : p.length ≤ 4611686018427387904) :
    RS.row ⟨(encRow p ++ rest).take m, false⟩ = if (encRow p).length ≤ m then (p, ⟨rest.take (m - (encRow p).length), false⟩) else ([], RS.bad) := by
  unfold RS.row
  rcases Nat.lt_or_ge m (enc p.length).length with h1 | h1
  · rw [if_neg (by simp [encRow]; omega)]
    have h2 : (encRow p ++ rest).take m = (enc p.length).take m := by
      rw [encRow, List.append_assoc, List.take_append_of_le_length (by omega)]
    have h3 : RS.num ⟨(encRow p ++ rest).take m, false⟩ = (0, RS.bad) := by
      unfold RS.num
      rw [if_neg (by simp), h2]
      show (match parse 0 0 ((enc p.length).take m) with | some (n, r) => (n, (⟨r, false⟩ : RS)) | none => (0, RS.bad)) = _
      rw [parse_short _ _ _ _ h1]
    rw [h3]
    rfl
  · have h2 : (encRow p ++ rest).take m = enc p.length ++ (p ++ rest).take (m - (enc p.length).length) := by
      rw [encRow, List.append_assoc, List.take_append, List.take_of_length_le h1]
    rw [h2, num_enc _ _ hp]
    show RS.raw ⟨(p ++ rest).take (m - (enc p.length).length), false⟩ p.length = _
    unfold RS.raw
    have hlen : (encRow p).length = (enc p.length).length + p.length := by simp [encRow]
    by_cases h3 : (encRow p).length ≤ m
    · rw [if_pos h3, if_neg]
      · simp only [Int.toNat_natCast]
        rw [List.take_take, Nat.min_eq_left (by omega), List.take_left, List.drop_take, List.drop_left]
        congr 3
        omega
      · simp
        omega
    · rw [if_neg h3, if_pos]
      right; right
      rw [List.length_take]
      have : m - (enc p.length).length < p.length := by omega
      omega
theorem encRows_drop (l : List Row) (k : Nat) (h : k < l.length) : encRows (l.drop k) = encRow l[k].p ++ encRows (l.drop (k + 1)) := by
  rw [List.drop_eq_getElem_cons h]
  exact List.flatMap_cons
theorem i64_and30 (a : Int) : bits .and .i64 a 1073741823 = a % 1073741824 := by
  show IntKind.i64.wrap ((BitVec.ofInt 64 a &&& BitVec.ofInt 64 1073741823).toNat : Int) = _
  have h1 : (BitVec.ofInt 64 1073741823).toNat = 2 ^ 30 - 1 := by decide
  rw [BitVec.toNat_and, h1, Nat.and_two_pow_sub_one_eq_mod, BitVec.toNat_ofInt, IntKind.wrap_i64]
  omega
/-- the reader's state behind k rows -/
def cutState (l : List Row) (m k : Nat) : RS := if (encRows (l.take k)).length ≤ m then ⟨(encRows (l.drop k)).take (m - (encRows (l.take k)).length), false⟩ else RS.bad
theorem cutState_row (l : List Row) (m k : Nat) (h : k < l.length) (hp : l[k].p.length ≤ 4611686018427387904) :
    (cutState l m k).row = (if (encRows (l.take (k + 1))).length ≤ m then l[k].p else [], cutState l m (k + 1)) := by
  have h1 : encRows (l.take (k + 1)) = encRows (l.take k) ++ encRow l[k].p := by
    rw [← encRows_snoc, List.take_append_getElem h]
  unfold cutState
  rw [h1, List.length_append]
  by_cases h2 : (encRows (l.take k)).length ≤ m
  · rw [if_pos h2, encRows_drop l k h, row_cut _ _ _ hp]
    by_cases h3 : (encRow l[k].p).length ≤ m - (encRows (l.take k)).length
    · rw [if_pos h3, if_pos (by omega), if_pos (by omega), Nat.sub_sub]
    · rw [if_neg h3, if_neg (by omega), if_neg (by omega)]
  · rw [if_neg h2, if_neg (by omega), if_neg (by omega)]
    rfl
theorem elemI : Elem Tryd.prog 22 3 1 8 (.int .i64 0) := ⟨Tryd.underlying22, by kernel_rfl, rfl, by omega⟩
def cutEnds (l : List Row) (k : Nat) : List Value := (List.range k).map fun i => .int .i64 ((encRows (l.take (i + 1))).length : Nat)
theorem cutEnds_succ (l : List Row) (k : Nat) : cutEnds l (k + 1) = cutEnds l k ++ [.int .i64 ((encRows (l.take (k + 1))).length : Nat)] := by
  unfold cutEnds; rw [List.range_succ, List.map_append]; rfl
theorem cutEnds_get (l : List Row) (k i : Nat) (h : i < k) : (cutEnds l k)[i]? = some (.int .i64 ((encRows (l.take (i + 1))).length : Nat)) := by
  unfold cutEnds; rw [List.getElem?_map, List.getElem?_range h]; rfl
theorem cutEnds_one (l : List Row) (k : Nat) : ∀ u ∈ cutEnds l k, u.oneCell' = true := by
  intro u hu
  obtain ⟨i, _, rfl⟩ := List.mem_map.1 hu
  rfl
/-- one cell behind a row of one-cell elements of at most eight bytes -/
theorem wpList_append_one8 {P : Program} {w : World} {t e : TypeId} {z : Value} {ops : Array Oper} {rest : List Oper} {o : Oper} {a : Act} {Q : Exit → Act → World → Prop} (hgd : o.guard = none) (s x : Operand) {bytes : Nat} (E : Elem P t e 1 bytes z)
    (ho : o.op = .call { callee := .builtin .append, args := #[s, x], argTypes := #[t, t] }) (hby : bytes ≤ 64)
    {A : Option Addr} {n c : Nat} {xs : List Value} (hs : a.eval s = .slice A n c) (hown : Own w e 1 A n c xs)
    {ad : Addr} {c2 : Nat} {v : Value} (hx : a.eval x = .slice (some ad) 1 c2) (hr : Rd w (some ad) [v]) (h1 : v.oneCell' = true) (hb : Hid (n + 1 ≤ 1000000000000))
    (h : ∀ A' c' w', Own w' e 1 A' (n + 1) c' (xs ++ [v]) → Chg (fun k => ∃ ad, A = some ad ∧ ad.block = k) w w' → (A' = A ∨ A' = some ⟨w.heap.size, 0, none⟩) → wpList P ops Q rest (a.put o.dst (.slice A' (n + 1) c')) w') : wpList P ops Q (o :: rest) a w :=
  wpList_append_Own hgd s x E ho hs hown hx hr rfl (one_of_forall h1) (by have := hb.out; unfold maxLen; omega)
    (by have := hb.out; have := Nat.mul_le_mul_left (n + 1) hby; omega) (fun h => by cases h) h
set_option maxRecDepth 100000 in
set_option maxHeartbeats 800000 in
theorem octetCuts_calls (A : Option Addr) (n c : Nat) (l : List Row) (at_ : Int) (w : World) (hT : TabOk w) (hr : Rd w A (rowsV l)) (hn : l.length = n) (hmax : n ≤ 9223372036854775807) (hrow : RowsOk w l) (hrl : ∀ r ∈ l, r.p.length ≤ 9223372036854775807) :
    Calls Tryd.prog 8 #[.slice A n c, .int .i64 at_] w fun e w' => e = .returned (.bool true) ∧ Chg nowhere w w' := by
  have HT := Lib.hid hT
  have HR := Lib.hid hr
  have HN := Lib.hid hn
  have HRL := Lib.hid hrl
  have HROW := Lib.hid hrow
  clear hT hr hn hrl hrow
  by_cases hn0 : n = 0
  · subst hn0
    go_enter Tryd.func8, Tryd.ntmps8
    go_wp2_with fail
    refine (heavyRows_calls A 0 c l _ HR.out HN.out hmax HRL.out).mono ?_
    rintro e w1 ⟨⟨b, rfl, hb⟩, rfl⟩
    cases b
    · go_wp2_with fail
      go_ret
      exact ⟨rfl, Chg.refl _ _⟩
    · go_wp2_with fail
      go_ret
      exact ⟨rfl, Chg.refl _ _⟩
  · have hnz : ((n : Int) == 0) = false := by simp; omega
    go_enter Tryd.func8, Tryd.ntmps8
    go_wp2_with fail
    refine (heavyRows_calls A n c l _ HR.out HN.out hmax HRL.out).mono ?_
    rintro e w1 ⟨⟨b, rfl, hb⟩, rfl⟩
    rcases b with _ | _
    · have hheavy := hb.out rfl
      have hsz := rowsSize_heavy l
      have hlen3 := heavySum_len l
      have hn4 : n ≤ 4000 := by have := HN.out; omega
      have HSZ : Hid (rowsSize l ≤ 16000) := Lib.hid (by omega)
      clear hb hheavy hsz hlen3
      have HPL : Hid (∀ r ∈ l, r.p.length ≤ 16000) := Lib.hid (fun r hr => by have := rowsSize_mem hr; have := HSZ.out; omega)
      have HENC : Hid (∀ k, (encRows (l.take k)).length ≤ 16000) := Lib.hid (fun k => by
        have h1 := encRows_len (l.take k) (fun r hr => by have := HPL.out r (List.mem_of_mem_take hr); omega)
        have h2 := rowsSize_take l k
        have h3 := HSZ.out
        omega)
      go_wp2_with fail
      go_loopw [5, 6, 7] (fun a b t wr => ∃ (k : Nat) (A1 A2 : Option Addr) (n1 c1 c2 : Nat), k ≤ n ∧ t = .int .i64 k ∧ a = .slice A1 n1 c1 ∧ b = .slice A2 k c2 ∧ Fresh w1 wr A1 n1 c1 (encRows (l.take k)) ∧
          Own wr 3 1 A2 k c2 (cutEnds l k) ∧ (∀ ad, A2 = some ad → w1.heap.size ≤ ad.block) ∧ (∀ a1 a2, A1 = some a1 → A2 = some a2 → a1.block ≠ a2.block)) (fun _ _ t _ => n - (intOf t).toNat)
      case atStart => exact ⟨0, none, none, 0, 0, 0, Nat.zero_le _, rfl, rfl, rfl, Fresh.nil _, Own.nil _ _ _, (fun ad e => by cases e), (fun a1 a2 e => by cases e)⟩
      case round =>
        obtain ⟨k, A1, A2, n1, c1, c2, hk, rfl, rfl, rfl, hF, hO, hge2, hne⟩ := hrel
        have HF := Lib.hid hF
        have HO := Lib.hid hO
        have HG2 := Lib.hid hge2
        have HNE := Lib.hid hne
        clear hF hO hge2 hne
        by_cases hlt : k < n
        · have e1 : (k : Int) < n := by omega
          have hkl : k < l.length := by have := HN.out; omega
          obtain ⟨ad, rfl, hc⟩ := (HR.out.later HF.out.chg) k l[k].v (by simp [rowsV, hkl])
          have hsn : encRows (l.take (k + 1)) = encRows (l.take k) ++ encRow l[k].p := by rw [← encRows_snoc, List.take_append_getElem hkl]
          have hmem := List.getElem_mem hkl
          have hp := HPL.out _ hmem
          have hq := (HROW.out _ hmem).later HF.out.chg
          rcases hrk : l[k] with ⟨RA, rc, p⟩
          rw [hrk] at hc hsn hp hq
          have hc' : wr.cell? (ad.add k) = some (.slice RA p.length rc) := hc
          have hp' : p.length ≤ 16000 := hp
          have HQ : Hid (Rd wr RA (bs p)) := Lib.hid hq
          have HSN : Hid (encRows (l.take (k + 1)) = encRows (l.take k) ++ encRow p) := Lib.hid hsn
          clear hc hp hq hsn hmem hrk hkl
          go_wp2_with fail
          refine (refBytes_calls RA p.length rc p _ HQ.out rfl (by omega)).mono ?_
          rintro e w2 ⟨A3, n3, c3, rfl, h3⟩
          have HM : Hid ((bs (encRow p)).length = n3) := Lib.hid (by rw [bs_length]; exact h3.out.len.symm)
          have HB : Hid (n1 + n3 ≤ lim) := hid_lim (by
            have h4 := HF.out.len
            have h5 := h3.out.len
            have h6 := HENC.out k
            have h7 := encRow_len p (by omega)
            omega)
          have HO1 : Hid (Own w2 5 1 A1 n1 c1 (bs (encRows (l.take k)))) := Lib.hid (HF.out.own.chg h3.out.chg (fun _ _ h => h))
          go_wp2_with (at_builtin; refine wpList_append_many rfl (.tmp 25) (.tmp 30) elemB rfl (Nat.le_refl _) rfl HO1.out rfl h3.out.rd HM (bs_one _) HB ?_)
          intro A4 c4 w4 hown4 hchg4 hA4
          rw [bs_append, ← HSN.out] at hown4
          have HP := Lib.hid (HF.out.push h3.out.chg hchg4 hown4 (by rw [HF.out.len, h3.out.len, HSN.out]; simp) (hA4.imp id fun h => ⟨_, h, h3.out.chg.size⟩))
          have HO4 : Hid (Own w4 3 1 A2 k c2 (cutEnds l k)) := Lib.hid ((HO.out.chg h3.out.chg (fun _ _ h => h)).chg hchg4 (by
            rintro ad2 e2 ⟨ad1, e1', h⟩
            exact HNE.out ad1 ad2 e1' e2 h))
          have HNE4 : Hid (∀ a1 a2, A4 = some a1 → A2 = some a2 → a1.block ≠ a2.block) := Lib.hid (by
            rintro a1 a2 e4 e2 h
            rcases hA4 with h4 | h4
            · exact HNE.out a1 a2 (h4.symm.trans e4) e2 h
            · rw [e4] at h4
              injection h4 with h4
              have h5 := HO.out.lt e2
              have h6 := h3.out.chg.size
              rw [← h, h4] at h5
              simp at h5
              omega)
          have HK : Hid (k + 1 ≤ 1000000000000) := Lib.hid (by omega)
          have hn9 : n1 + n3 ≤ 9223372036854775807 := by have := HB.out; have := lim_le HB; omega
          have HLEN : Hid (n1 + n3 = (encRows (l.take (k + 1))).length) := Lib.hid HP.out.len
          clear hown4 hchg4 hA4
          go_wp2_with (at_builtin; refine wpList_append_one8 rfl (.tmp 32) (.tmp 35) elemI rfl (by decide) rfl (HO4.out.alloc _) rfl (Rd.lit _ [_] _) rfl HK ?_)
          intro A5 c5 w5 hown5 hchg5 hA5
          have HO5 : Hid (Own w5 3 1 A5 (k + 1) c5 (cutEnds l (k + 1))) := Lib.hid (by
            rw [cutEnds_succ, ← HLEN.out]
            exact hown5)
          have HP5 : Hid (Fresh w1 w5 A4 (n1 + n3) c4 (encRows (l.take (k + 1)))) := Lib.hid ((HP.out.far_ (S := nowhere) ((Chg.refl _ _).alloc _) (fun _ _ h => h) (fun _ h => h.elim)).far_ hchg5 (by
              rintro ad4 e4 ⟨ad2, e2, h⟩
              exact HNE4.out ad4 ad2 e4 e2 h.symm) (by
              rintro x ⟨ad2, e2, rfl⟩
              exact HG2.out ad2 e2))
          have HG5 : Hid (∀ ad, A5 = some ad → w1.heap.size ≤ ad.block) := Lib.hid (by
            rintro ad5 e5
            rcases hA5 with h | h
            · exact HG2.out ad5 (h.symm.trans e5)
            · rw [e5] at h
              injection h with h
              have := HP.out.chg.size
              rw [h]
              show w1.heap.size ≤ w4.heap.size + 1
              omega)
          have HNE5 : Hid (∀ a1 a2, A4 = some a1 → A5 = some a2 → a1.block ≠ a2.block) := Lib.hid (by
            rintro a1 a2 e4 e5 h
            rcases hA5 with h4 | h4
            · exact HNE4.out a1 a2 e4 (h4.symm.trans e5) h
            · rw [e5] at h4
              injection h4 with h4
              have h5 := HP.out.own.lt e4
              rw [h, h4] at h5
              simp at h5
              omega)
          clear hown5 hchg5 hA5
          go_wp2_with fail
          exact ⟨⟨k + 1, A4, A5, n1 + n3, c4, c5, by omega, by go_num, rfl, rfl, HP5.out, HO5.out, HG5.out, HNE5.out⟩, by simp [intOf]; omega⟩
        · have e1 : (n : Int) ≤ k := by omega
          have hkn : k = n := by omega
          subst hkn
          have hall : l.take k = l := List.take_of_length_le (by have := HN.out; omega)
          rw [hall] at HF
          have hE := HENC.out k
          rw [hall] at hE
          have hpos : 0 < (encRows l).length := by
            rcases l with _ | ⟨r, l'⟩
            · exact absurd HN.out.symm hn0
            · have := enc_pos r.p.length
              simp [encRows, encRow]
              omega
          have hn1 := HF.out.len
          obtain ⟨m, hm⟩ : ∃ m : Nat, (m : Int) = at_ % 1073741824 := ⟨(at_ % 1073741824).toNat, by omega⟩
          have q1 := i64_and30 at_
          rw [← hm] at q1
          have hm30 : m < 1073741824 := by omega
          have h1p : 0 < n1 := by omega
          have h1e : n1 ≤ 16000 := by omega
          have hmod : m % n1 < n1 := Nat.mod_lt _ h1p
          have hcap : n1 ≤ c1 := by rcases HF.out.own.form with ⟨_, h, h', _⟩ | ⟨_, _, _, _, h, _⟩ <;> omega
          have hmc : m % n1 ≤ c1 := by omega
          have HE := Lib.hid hE
          have HN1 := Lib.hid hn1
          clear hm hE hn1 hpos hall
          have HRD : Hid (Rd wr A1 (bs ((encRows l).take (m % n1)))) := Lib.hid (by rw [← bs_take]; exact HF.out.own.rd.take _)
          go_wp2_with fail
          obtain ⟨q, hq⟩ : ∃ q, q = m % n1 := ⟨_, rfl⟩
          have hqz : ((m : Int) % (n1 : Int)) = (q : Int) := by omega
          rw [hqz]
          rw [← hq] at HRD hmod hmc ⊢
          have HQ := Lib.hid hq
          clear hq hqz q1 hm30
          refine (NewReader_calls A1 q c1 ((encRows l).take q) _ HRD.out (by rw [List.length_take, ← HN1.out]; omega) (by omega)).mono ?_
          rintro e w2 ⟨g, d, rfl, hrd, hch, hg, hd⟩
          have HC2 := Lib.hid (HF.out.chg.step hch.out (fun _ h => h.elim))
          have HO2 := Lib.hid (HO.out.chg hch.out (fun _ _ h => h))
          have hg' : w1.heap.size ≤ g := Nat.le_trans HF.out.chg.size hg
          have HA2 : Hid (∀ ad, A2 = some ad → ad.block < wr.heap.size) := Lib.hid (fun ad e => HO.out.lt e)
          have HS0 : Hid (RdrAt w2 g d (cutState l q 0)) := Lib.hid (by
            have h1 := hrd.out
            unfold cutState
            rw [if_pos (by simp [encRows])]
            simpa [encRows] using h1)
          clear hrd hch
          go_wp2_with fail
          go_loopw [10] (fun t wz => ∃ i : Nat, i ≤ k ∧ t = .int .i64 i ∧ RdrAt wz g d (cutState l q i) ∧ Chg nowhere w1 wz ∧ Own wz 3 1 A2 k c2 (cutEnds l k)) (fun t _ => k - (intOf t).toNat)
          case atStart => exact ⟨0, Nat.zero_le _, rfl, HS0.out, HC2.out, HO2.out⟩
          case round =>
            obtain ⟨i, hi, rfl, hrd, hch, hoz⟩ := hrel
            have HRDI := Lib.hid hrd
            have HCI := Lib.hid hch
            have HOI := Lib.hid hoz
            clear hrd hch hoz
            by_cases hlti : i < k
            · have e2 : (i : Int) < k := by omega
              have hil : i < l.length := by have := HN.out; omega
              have hlen : (cutState l q i).b.length ≤ 1000000000000 := by
                unfold cutState
                split
                · simp only [List.length_take]
                  have := HQ.out
                  have := HE.out
                  omega
                · simp [RS.bad]
              have hrow := cutState_row l q i hil (by have := HPL.out _ (List.getElem_mem hil); omega)
              have HROWI := Lib.hid hrow
              have HLENI := Lib.hid hlen
              clear hrow hlen
              go_wp2_with fail
              refine (rBytes_calls g d (cutState l q i) _ HRDI.out HLENI.out).mono ?_
              rintro e w3 ⟨A3, n3, c3, rfl, hn3, ho3, hr3, hc3, hg3⟩
              rw [HROWI.out] at hn3 ho3 hr3
              have HC3 := Lib.hid (HCI.out.step hc3.out (by rintro x rfl; exact hg'))
              have HO3 : Hid (Own w3 3 1 A2 k c2 (cutEnds l k)) := Lib.hid (HOI.out.chg hc3.out (by
                rintro ad e rfl
                have := HA2.out ad e
                omega))
              obtain ⟨a2, rfl, hce⟩ := HO3.out.rd i _ (cutEnds_get l k i hlti)
              obtain ⟨ad, rfl, hcr⟩ := (HR.out.later HC3.out) i l[i].v (by simp [rowsV, hil])
              have hqr := (HROW.out _ (List.getElem_mem hil)).later HC3.out
              obtain ⟨E, hE⟩ : ∃ E, E = (encRows (l.take (i + 1))).length := ⟨_, rfl⟩
              rw [← hE] at hce hn3 ho3
              have hE9 : E ≤ 16000 := by rw [hE]; exact HENC.out _
              rcases hrk : l[i] with ⟨RA, rc, p⟩
              rw [hrk] at hcr hqr hn3 ho3
              have hcr' : w3.cell? (ad.add i) = some (.slice RA p.length rc) := hcr
              have HQR : Hid (Rd w3 RA (bs p)) := Lib.hid hqr
              have HP16 : Hid (p.length ≤ 16000) := Lib.hid (by have := HPL.out _ (List.getElem_mem hil); rw [hrk] at this; exact this)
              have HEE := Lib.hid hE
              have HRDN := Lib.hid hr3.out
              have HRDN : Hid (RdrAt w3 g d (cutState l q (i + 1))) := HRDN
              clear hcr hqr hrk hE hr3 hc3
              by_cases hle : E ≤ q
              · rw [if_pos hle] at hn3 ho3
                have e3 : (E : Int) ≤ q := by omega
                have hns : (cutState l q (i + 1)).e = false := by unfold cutState; rw [← HEE.out, if_pos hle]
                have HNS : Hid ((!(cutState l q (i + 1)).e) = true) := Lib.hid (by rw [hns]; rfl)
                clear hns
                go_wp2_with fail
                refine (same_calls A3 RA n3 p.length c3 rc p p _ hn3.out.symm rfl (by have := hn3.out; have := HP16.out; simp at *; omega) ho3.out.rd HQR.out).mono ?_
                rintro e w4 ⟨he, hw4⟩
                rw [decide_eq_true rfl] at he
                subst he
                have HC34 : Hid (Chg nowhere w3 w4) := by
                  obtain ⟨z, rfl⟩ := hw4
                  exact (Chg.refl _ _).drewN z
                clear hw4
                go_wp2_with fail
                refine (Good_calls g d _ _ (HRDN.out.chg HC34.out (fun h => h) (fun h => h))).mono ?_
                rintro e w5 ⟨rfl, rfl⟩
                rw [HNS.out]
                go_wp2_with fail
                exact ⟨⟨i + 1, by omega, by go_num, HRDN.out.chg HC34.out (fun h => h) (fun h => h), HC3.out.step HC34.out (fun _ h => h.elim), HO3.out.chg HC34.out (fun _ _ h => h)⟩, by simp [intOf]; omega⟩
              · rw [if_neg hle] at hn3 ho3
                have hn30 : n3 = 0 := hn3.out
                subst hn30
                have e3 : ¬ (E : Int) ≤ q := by omega
                have hbad : cutState l q (i + 1) = RS.bad := by unfold cutState; rw [← HEE.out, if_neg hle]
                rw [hbad] at HRDN
                have HBAD := Lib.hid hbad
                have hbt : (!RS.bad.e) = false := rfl
                have hbl : RS.bad.b.length = 0 := rfl
                clear hbad
                go_wp2_with fail
                refine (Good_calls g d _ _ HRDN.out).mono ?_
                rintro e w5 ⟨rfl, rfl⟩
                rw [hbt]
                go_wp2_with fail
                refine (Left_calls g d _ _ HRDN.out).mono ?_
                rintro e w5 ⟨rfl, rfl⟩
                rw [hbl]
                go_wp2_with fail
                exact ⟨⟨i + 1, by omega, by go_num, by rw [HBAD.out]; exact HRDN.out, HC3.out, HO3.out⟩, by simp [intOf]; omega⟩
            · have e2 : (k : Int) ≤ i := by omega
              have hik : i = k := by omega
              subst hik
              have hbad : cutState l q i = RS.bad := by
                unfold cutState
                rw [List.take_of_length_le (by have := HN.out; omega), ← HN1.out, if_neg (by omega)]
              rw [hbad] at HRDI
              have hwb : (!RS.bad.e && decide (RS.bad.b = [])) = false := rfl
              have hnb : (RS.bad.num.1 : Int) = 0 := rfl
              go_wp2_with fail
              refine (Whole_calls g d _ _ HRDI.out (by decide)).mono ?_
              rintro e w5 ⟨rfl, rfl⟩
              rw [hwb]
              go_wp2_with fail
              refine (Num_calls g d _ _ HRDI.out (by decide)).mono ?_
              rintro e w6 ⟨rfl, h6, hc6⟩
              rw [hnb]
              have HC6 := Lib.hid (HCI.out.step hc6.out (by rintro x rfl; exact hg'))
              clear h6 hc6
              go_wp2_with fail
              refine (known_calls _ (HT.out.chg HC6.out (fun h => h))).mono ?_
              rintro e w7 ⟨rfl, h7⟩
              have HC7 := Lib.hid (HC6.out.step h7 (fun _ h => h.elim))
              clear h7
              go_wp2_with fail
              go_ret
              exact ⟨rfl, HC7.out⟩
    · go_wp2_with fail
      go_ret
      exact ⟨rfl, Chg.refl _ _⟩
end Go.Proofs.YtifakldkcjjokaaDoor
