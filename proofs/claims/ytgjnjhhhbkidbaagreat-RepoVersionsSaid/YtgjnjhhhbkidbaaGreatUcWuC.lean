/- Conv, WuB, WvA, WvB, WyM, TkM, WuC -/
import Derived.Test.YtgjnjhhhbkidbaaGreatUcBase
import Derived.Laws.BytesArg
import Derived.Laws.BytesString
import Derived.Test.YtgjnjhhhbkidbaaGreatUcWuA
import Derived.Test.YtgjnjhhhbkidbaaGreatUcWsB
import Derived.Test.YtgjnjhhhbkidbaaGreatUcOcRfC
section
open Go Go.RowKit
namespace Go.Proofs.YtgjnjhhhbkidbaaGreat
def strL (xs : List UInt8) : ByteArray := ⟨xs.toArray⟩
theorem list_loop (a : ByteArray) : ∀ (m i : Nat) (r : List UInt8), m = a.size - i → ByteArray.toList.loop a i r = r.reverse ++ a.data.toList.drop i
 | 0, i, r, h => by
  have hsz : a.data.toList.length = a.size := Array.length_toList
  rw [ByteArray.toList.loop, if_neg (by omega), List.drop_of_length_le (by omega), List.append_nil]
 | m + 1, i, r, h => by
  rw [ByteArray.toList.loop, if_pos (by omega), list_loop a m (i + 1) _ (by omega)]
  have hsz : a.data.toList.length = a.size := Array.length_toList
  have hi : i < a.data.toList.length := by omega
  rw [List.drop_eq_getElem_cons hi]
  have e : a.get! i = a.data.toList[i] := by
   simp only [ByteArray.get!]
   rw [getElem!_pos a.data i (by simpa using hi)]
   simp
  rw [e]
  simp
theorem strL_list (xs : List UInt8) : (strL xs).toList = xs := by
 show ByteArray.toList.loop (strL xs) 0 [] = xs
 rw [list_loop (strL xs) _ 0 [] rfl]
 simp [strL]
theorem strL_eq (xs ys : List UInt8) : ((strL xs).toList == (strL ys).toList) = decide (xs = ys) := by
 rw [strL_list, strL_list, Bool.eq_iff_iff, beq_iff_eq, decide_eq_true_eq]
section
variable {P : Program} {ops : Array Oper} {rest : List Oper} {a : Act} {w : World} {Q : Exit → Act → World → Prop} {dst : Option Tmp} {ty : TypeId} {pos : String} {after : Array Edge}
theorem foldl_push (xs : List UInt8) (b : ByteArray) : (xs.map fun x => (x.toNat : Int)).foldl (fun a n => a.push (UInt8.ofNat n.toNat)) b = ⟨b.data ++ xs.toArray⟩ := by
 induction xs generalizing b with
 | nil => simp
 | cons x xs ih =>
  rw [List.map_cons, List.foldl_cons, ih]
  congr 1
  apply Array.ext'
  simp [ByteArray.push]
theorem run_convS {src td e : TypeId} {A : Option Addr} {n c : Nat} {xs : List UInt8} (hr : Rd w A (bs xs)) (hn : xs.length = n)
    (hs : P.underlying src = some (.slice e)) (he : P.underlying e = some (.int .u8)) (hd : P.underlying td = some .string) : (convert src td (.slice A n c)).run P w = .ok (.string (strL xs)) w := by
 cases A with
 | none =>
  have hx : xs = [] := by
   cases xs with
   | nil => rfl
   | cons x l => obtain ⟨ad, h, _⟩ := hr 0 _ rfl; cases h
  subst hx
  subst hn
  exact run_convert_bytes_nil w src e hs he _ c td hd
 | some ad =>
  have hl : (loadCells ad n).run P w = .ok ((xs.map fun x => (x.toNat : Int)).map (Value.int .u8)).toArray w := by
   have h := run_loadCells_list (P := P) w ad (bs xs) (fun j v hv => by
    obtain ⟨ad', e1, e2⟩ := hr j v hv
    injection e1 with e1
    subst e1
    exact e2)
   rw [bs_length, hn] at h
   rw [h, List.map_map]
   rfl
  rw [run_convert_bytes_string w src td e ad n c hs he hd, run_bytesToString w ad n c _ hl, foldl_push]
  simp [strL]
theorem wpl_conv {src td e : TypeId} {x : Operand} {A : Option Addr} {n c : Nat} {xs : List UInt8} (hx : a.eval x = .slice A n c) (hr : HR w A (bs xs)) (hn : xs.length = n)
    (hs : P.underlying src = some (.slice e)) (he : P.underlying e = some (.int .u8)) (hd : P.underlying td = some .string)
    (h : wpList P ops Q rest (a.put dst (.string (strL xs))) w) : wpList P ops Q (⟨dst, .convert src td x, ty, pos, after, none⟩ :: rest) a w :=
 wpl_of_run rfl (by
  show ((convert src td (a.eval x)) >>= fun v => pure (Next.value v)).run P w = _
  rw [hx, Sem.run_bind, run_convS hr.out hn hs he hd]
  rfl) h
end
end Go.Proofs.YtgjnjhhhbkidbaaGreat
end
section
open Go Go.RowKit
namespace Go.Proofs.YtgjnjhhhbkidbaaGreat
def repL (u n : ByteArray) (h : H32) (c k : Int) : List Value := .string u :: .string n :: (bs h.l ++ [.int .i64 c, .int .i64 k])
theorem toL {s : ByteArray} {l : List UInt8} (hs : s.data.toList = l) : s.toList = l := by
 subst hs
 exact strL_list s.data.toList
def nameE (l : List UInt8) : Bool := l.isEmpty || nameL l
set_option maxRecDepth 100000 in
theorem nameE_calls (s : ByteArray) (l : List UInt8) (hs : s.data.toList = l) (w : World) :
    Calls Tryz.prog 163 #[.string s] w fun e w' => e = .returned (.bool (nameE l)) ∧ Step nowhere w w' := by
 have hE : s.toList.isEmpty = l.isEmpty := by rw [toL hs]
 unfold nameE
 cases he : l.isEmpty
 case true =>
  rw [he] at hE
  rw [show (true || nameL l) = true from rfl]
  go_enter Tryz.func163, Tryz.ntmps163
  go_wp2_with fail
  go_ret
  first
   | exact ⟨rfl, stepN⟩
   | exact ⟨by simp [hE], stepN⟩
 case false =>
  rw [he] at hE
  rw [show (false || nameL l) = nameL l from rfl]
  go_enter Tryz.func163, Tryz.ntmps163
  go_wp2_with fail
  refine (wname_calls s l hs _).mono ?_
  rintro e w5 ⟨rfl, _⟩
  go_wp2_with fail
  go_ret
  exact ⟨rfl, stepN⟩
def repB (l m : List UInt8) (c k : Int) : Bool := nameL l && nameE m && numB c && numB k
theorem run_fld4 (f1 f2 f3 f4 : FuncId) (c1 c2 c3 c4 : Array Value) (w : World) : (Instr.buildSlice 230 4 #[(0, .func (.func f1) #[] c1), (1, .func (.func f2) #[] c2), (2, .func (.func f3) #[] c3), (3, .func (.func f4) #[] c4)]).run Tryz.prog w = .ok (.slice (some ⟨w.heap.size, 0, none⟩) 4 4) (w.alloc (.cells #[.func (.func f1) #[] c1, .func (.func f2) #[] c2, .func (.func f3) #[] c3, .func (.func f4) #[] c4] 186)) := by kernel_rfl
/-- four fields, one behind the other -/
theorem fields4 {z c : Nat} {f1 f2 f3 f4 : FuncId} {c1 c2 c3 c4 : Array Value} {T1 T2 T3 T4 : Nat → Prop} {y1 y2 y3 y4 : List UInt8} {w : World} {t : TypeId} [h : HB w z t #[.func (.func f1) #[] c1, .func (.func f2) #[] c2, .func (.func f3) #[] c3, .func (.func f4) #[] c4]]
    (h1 : Lays w T1 (.func (.func f1) #[] c1) y1) (h2 : Lays w T2 (.func (.func f2) #[] c2) y2) (h3 : Lays w T3 (.func (.func f3) #[] c3) y3) (h4 : Lays w T4 (.func (.func f4) #[] c4) y4) :
    Calls Tryz.prog 106 #[.slice (some ⟨z, 0, none⟩) 4 c] w fun e w' => ∃ f caps T, e = .returned (.func (.func f) #[] caps) ∧ Step nowhere w w' ∧ Lays w' T (.func (.func f) #[] caps) (y1 ++ (y2 ++ (y3 ++ y4))) ∧ ∀ x, T x → w.heap.size ≤ x ∨ x = z ∨ T1 x ∨ T2 x ∨ T3 x ∨ T4 x := by
 have hr := h.rdL
 refine (fields_calls (A2 := some ⟨z, 0, none⟩) (c := c) (l := [⟨_, T1, y1⟩, ⟨_, T2, y2⟩, ⟨_, T3, y3⟩, ⟨_, T4, y4⟩]) hr rfl (show 4 ≤ 1000000000 by decide) ?_).mono ?_
 · intro f hf
   simp only [List.mem_cons, List.not_mem_nil, or_false] at hf
   rcases hf with rfl | rfl | rfl | rfl
   · exact h1
   · exact h2
   · exact h3
   · exact h4
 · rintro e w' ⟨f, caps, T, rfl, hs, hL, hT⟩
   refine ⟨f, caps, T, rfl, hs, ?_, fun x hx => ?_⟩
   · have e2 : allYs [⟨Value.func (.func f1) #[] c1, T1, y1⟩, ⟨Value.func (.func f2) #[] c2, T2, y2⟩, ⟨Value.func (.func f3) #[] c3, T3, y3⟩, ⟨Value.func (.func f4) #[] c4, T4, y4⟩] = y1 ++ (y2 ++ (y3 ++ y4)) := by simp [allYs]
     rwa [e2] at hL
   · rcases hT x hx with h | ⟨_, ad, e, hk⟩ | ⟨f, hf, hk⟩
     · exact .inl h
     · injection e with e
       subst e
       exact .inr (.inl hk.symm)
     · simp only [List.mem_cons, List.not_mem_nil, or_false] at hf
       rcases hf with rfl | rfl | rfl | rfl
       · exact .inr (.inr (.inl hk))
       · exact .inr (.inr (.inr (.inl hk)))
       · exact .inr (.inr (.inr (.inr (.inl hk))))
       · exact .inr (.inr (.inr (.inr (.inr hk))))
end Go.Proofs.YtgjnjhhhbkidbaaGreat
end
section
open Go Go.RowKit
namespace Go.Proofs.YtgjnjhhhbkidbaaGreat
theorem RS.row_le (s : RS) : s.row.2.b.length ≤ s.b.length := by
 unfold RS.row
 exact Nat.le_trans (RS.raw_l _ _) (RS.num_le s)
/-- the parts of a report, as they are taken -/
def rU (s : RS) : List UInt8 := s.row.1
def rN (s : RS) : List UInt8 := s.row.2.row.1
def rS2 (s : RS) : RS := s.row.2.row.2
def rH (s : RS) : H32 := (rS2 s).hsh
def rS3 (s : RS) : RS := ((rS2 s).raw 32).2
def rC (s : RS) : Nat := (rS3 s).num.1
def rK (s : RS) : Nat := ((rS3 s).at 1).num.1
def rR (s : RS) : RS := (rS3 s).at 2
theorem ne_of_le {a b : List UInt8} (h : a.length ≤ b.length) (ha : a ≠ []) : b ≠ [] := fun hb => ha (List.eq_nil_of_length_eq_zero (by rw [hb] at h; simpa using h))
end Go.Proofs.YtgjnjhhhbkidbaaGreat
end
section
open Go Go.RowKit
namespace Go.Proofs.YtgjnjhhhbkidbaaGreat
def rOk (b : List UInt8) : Bool := wholeB (rR (kindS 5 b)) && repB (rU (kindS 5 b)) (rN (kindS 5 b)) (rC (kindS 5 b)) (rK (kindS 5 b))
/-- what is decoded -/
def repD (b : List UInt8) : Array Value := (repL (strL (rU (kindS 5 b))) (strL (rN (kindS 5 b))) (rH (kindS 5 b)) (rC (kindS 5 b)) (rK (kindS 5 b))).toArray
def DecR (b : List UInt8) (w : World) : Ending → World → Prop := fun e w' => Step nowhere w w' ∧ e = .returned (if rOk b then .tuple #[.agg (repD b), .int .i64 0] else .tuple #[.agg (repL ⟨#[]⟩ ⟨#[]⟩ zeroH 0 0).toArray, .int .i64 2])
end Go.Proofs.YtgjnjhhhbkidbaaGreat
end
section
open Go Go.RowKit
namespace Go.Proofs.YtgjnjhhhbkidbaaGreat
theorem ofNat_toNat (c : UInt8) (n : Nat) (h : n = c.toNat) : UInt8.ofNat n = c := by subst h; exact UInt8.ofNat_toNat
theorem parse_back : ∀ (b : List UInt8) (i acc N : Nat) (r : List UInt8), parse i acc b = some (N, r) → ∃ n, N = acc + n * 128 ^ i ∧ b = enc n ++ r ∧ (0 < i → 0 < n) ∧ N ≤ 4611686018427387904
 | [], i, acc, N, r, h => by simp [parse] at h
 | c :: b, i, acc, N, r, h => by
  have hc := c.toNat_lt
  rw [parse] at h
  by_cases h9 : 9 ≤ i
  · rw [if_pos h9] at h
    cases h
  · rw [if_neg h9] at h
    by_cases h1 : 128 ≤ c.toNat
    · rw [if_pos h1] at h
      obtain ⟨n, e1, e2, e3, e4⟩ := parse_back b (i + 1) _ N r h
      have hn : 0 < n := e3 (by omega)
      refine ⟨c.toNat % 128 + 128 * n, ?_, ?_, fun _ => by omega, e4⟩
      · rw [e1, Nat.add_mul, Nat.pow_succ, Nat.add_assoc]
        congr 2
        rw [Nat.mul_comm 128 n, Nat.mul_assoc, Nat.mul_comm 128]
      · have hl : ¬ (c.toNat % 128 + 128 * n) < 128 := by omega
        rw [enc_large hl, show (c.toNat % 128 + 128 * n) % 128 + 128 = c.toNat by omega, show (c.toNat % 128 + 128 * n) / 128 = n by omega, ofNat_toNat c _ rfl, e2]
        rfl
    · rw [if_neg h1] at h
      by_cases h2 : 4611686018427387904 < acc + c.toNat % 128 * 128 ^ i ∨ (c.toNat = 0 ∧ 0 < i)
      · rw [if_pos h2] at h
        cases h
      · rw [if_neg h2] at h
        injection h with h
        injection h with ha hb
        subst hb
        have hm : c.toNat % 128 = c.toNat := by omega
        rw [hm] at ha h2
        refine ⟨c.toNat, ha.symm, ?_, fun hi => ?_, by omega⟩
        · rw [enc_small (by omega), ofNat_toNat c _ rfl]
          rfl
        · rcases Nat.eq_zero_or_pos c.toNat with h0 | h0
          · exact absurd (.inr ⟨h0, hi⟩) h2
          · exact h0
theorem num_back {s : RS} (h : s.num.2.e = false) : s.e = false ∧ s.b = enc s.num.1 ++ s.num.2.b ∧ s.num.1 ≤ 4611686018427387904 := by
 unfold RS.num at *
 cases he : s.e
 case true =>
  rw [he, if_pos rfl] at h
  rw [he] at h
  cases h
 case false =>
  rw [he, if_neg (by decide)] at h
  rw [if_neg (by decide)]
  cases hp : parse 0 0 s.b with
  | none =>
   rw [hp] at h
   cases h
  | some x =>
   obtain ⟨N, r⟩ := x
   obtain ⟨n, e1, e2, _, e4⟩ := parse_back s.b 0 0 N r hp
   have hN : N = n := by simpa using e1
   refine ⟨rfl, ?_, e4⟩
   show s.b = enc N ++ r
   rw [hN]
   exact e2
theorem raw_back {s : RS} {i : Int} (h : (s.raw i).2.e = false) : s.e = false ∧ 0 ≤ i ∧ s.b = (s.raw i).1 ++ (s.raw i).2.b ∧ ((s.raw i).1.length : Int) = i := by
 unfold RS.raw at *
 by_cases hc : s.e ∨ i < 0 ∨ (s.b.length : Int) < i
 · rw [if_pos hc] at h
   cases h
 · rw [if_neg hc]
   have h1 : s.e = false := by
    cases he : s.e
    · rfl
    · exact absurd (.inl he) hc
   have h2 : 0 ≤ i := Int.not_lt.1 (fun h => hc (.inr (.inl h)))
   have h3 : i ≤ (s.b.length : Int) := Int.not_lt.1 (fun h => hc (.inr (.inr h)))
   refine ⟨h1, h2, (List.take_append_drop _ _).symm, ?_⟩
   show ((s.b.take i.toNat).length : Int) = i
   rw [List.length_take]
   omega
theorem hsh_back {s : RS} (h : (s.raw 32).2.e = false) : s.e = false ∧ s.b = s.hsh.l ++ (s.raw 32).2.b := by
 obtain ⟨h1, _, h3, h4⟩ := raw_back h
 refine ⟨h1, ?_⟩
 rw [RS.hsh, dif_pos (by omega)]
 exact h3
theorem row_back {s : RS} (h : s.row.2.e = false) : s.e = false ∧ s.b = encRow s.row.1 ++ s.row.2.b := by
 unfold RS.row at *
 obtain ⟨h1, _, h3, h4⟩ := raw_back h
 obtain ⟨h5, h6, _⟩ := num_back h1
 refine ⟨h5, ?_⟩
 have hl : (s.num.2.raw (s.num.1 : Int)).1.length = s.num.1 := by omega
 rw [encRow, hl, List.append_assoc, ← h3]
 exact h6
theorem encN {n : Nat} (h : n ≤ 4611686018427387904) : encAll [(n : Int)] = enc n := by rw [encAll_one, clampN_nat n h]
theorem kind_back {k : Nat} {b : List UInt8} (h : (kindS k b).e = false) : b = enc k ++ (kindS k b).b := by
 unfold kindS at *
 by_cases hk : (⟨b, false⟩ : RS).num.1 = k
 · rw [if_pos hk] at h ⊢
   have h1 := (num_back h).2.1
   rw [hk] at h1
   exact h1
 · rw [if_neg hk] at h
   cases h
theorem whole_back {s : RS} (h : wholeB s = true) : s.e = false ∧ s.b = [] := by
 unfold wholeB at h
 rw [Bool.and_eq_true] at h
 exact ⟨by simpa using h.1, of_decide_eq_true h.2⟩
theorem encAll_app (a b : List Int) : encAll (a ++ b) = encAll a ++ encAll b := by simp [encAll]
/-- a time's bytes -/
def timE (v e s : Int) (h : H32) : List UInt8 := encAll [2] ++ (encAll [v, e, s] ++ h.l)
theorem tOk_back {b : List UInt8} (h : tOk b = true) : b = timE (tV (kindS 2 b)) (tE (kindS 2 b)) (tS (kindS 2 b)) (tH (kindS 2 b)) := by
 unfold tOk at h
 rw [Bool.and_eq_true] at h
 obtain ⟨h1, h2⟩ := whole_back h.1
 have hk : b = enc 2 ++ (kindS 2 b).b → _ := fun h => h
 generalize hS : kindS 2 b = S at *
 obtain ⟨a1, a2⟩ := hsh_back (s := S.at 3) h1
 obtain ⟨b1, b2, b3⟩ := num_back (s := S.at 2) a1
 obtain ⟨c1, c2, c3⟩ := num_back (s := S.at 1) b1
 obtain ⟨d1, d2, d3⟩ := num_back (s := S) c1
 have hb := kind_back (k := 2) (b := b) (by rw [hS]; exact d1)
 rw [hS] at hb
 have r0 : ((S.at 3).raw 32).2.b = [] := h2
 have g1 : tV S ≤ 4611686018427387904 := d3
 have g2 : tE S ≤ 4611686018427387904 := c3
 have g3 : tS S ≤ 4611686018427387904 := b3
 rw [r0, List.append_nil] at a2
 have e3 : encAll [(tV S : Int), tE S, tS S] = enc (tV S) ++ (enc (tE S) ++ enc (tS S)) := by
  rw [show [(tV S : Int), tE S, tS S] = [(tV S : Int)] ++ ([(tE S : Int)] ++ [(tS S : Int)]) from rfl, encAll_app, encAll_app, encN g1, encN g2, encN g3]
 rw [timE, e3, show encAll [2] = enc 2 from encN (n := 2) (by decide), hb, List.append_assoc, List.append_assoc]
 congr 1
 rw [d2]
 congr 1
 show (S.at 1).b = _
 rw [c2]
 congr 1
 show (S.at 2).b = _
 rw [b2]
 congr 1
/-- a report's bytes -/
def repE (l m : List UInt8) (h : H32) (c k : Int) : List UInt8 := encAll [5] ++ (encRow l ++ (encRow m ++ (h.l ++ encAll [c, k])))
end Go.Proofs.YtgjnjhhhbkidbaaGreat
end
section
open Go Go.RowKit
namespace Go.Proofs.YtgjnjhhhbkidbaaGreat
section
variable {α : Type} (tk : RS → α × RS)
def tkS (s : RS) : Nat → RS
 | 0 => s
 | k + 1 => (tk (tkS s k)).2
def tkL (s : RS) : Nat → List α
 | 0 => []
 | k + 1 => tkL s k ++ [(tk (tkS tk s k)).1]
theorem tkL_len (s : RS) : ∀ k, (tkL tk s k).length = k
 | 0 => rfl
 | k + 1 => by rw [tkL, List.length_append, tkL_len s k]; rfl
def lstL (most : Nat) (s : RS) : List α := if most < s.num.1 then [] else tkL tk s.num.2 s.num.1
def lstS (most : Nat) (s : RS) : RS := if most < s.num.1 then RS.bad else tkS tk s.num.2 s.num.1
def GotL (most : Nat) (s : RS) (l : List α) (s' : RS) : Prop := ∃ j, j ≤ most + 1 ∧ j ≤ s.num.1 ∧ (j = s.num.1 ∨ j = most + 1 ∨ (tkS tk s.num.2 j).e = true) ∧ l = tkL tk s.num.2 j ∧ s' = tkS tk s.num.2 j
/-- what is known of a way to take one -/
structure Takes (enc : α → List UInt8) : Prop where
 le : ∀ s, (tk s).2.b.length ≤ s.b.length
 back : ∀ s, (tk s).2.e = false → s.e = false ∧ s.b = enc (tk s).1 ++ (tk s).2.b
end
section
variable {α : Type} {tk : RS → α × RS} {enc : α → List UInt8}
theorem Takes.tkS_le (h : Takes tk enc) (s : RS) : ∀ k, (tkS tk s k).b.length ≤ s.b.length
 | 0 => Nat.le_refl _
 | k + 1 => Nat.le_trans (h.le _) (Takes.tkS_le h s k)
theorem Takes.tkS_back (h : Takes tk enc) (s : RS) : ∀ k, (tkS tk s k).e = false → s.e = false ∧ s.b = (tkL tk s k).flatMap enc ++ (tkS tk s k).b
 | 0, he => ⟨he, rfl⟩
 | k + 1, he => by
  obtain ⟨h1, h2⟩ := h.back (tkS tk s k) he
  obtain ⟨h3, h4⟩ := Takes.tkS_back h s k h1
  refine ⟨h3, ?_⟩
  rw [tkL, List.flatMap_append, List.append_assoc]
  show s.b = _ ++ ((enc (tk (tkS tk s k)).1 ++ []) ++ (tk (tkS tk s k)).2.b)
  rw [List.append_nil, ← h2]
  exact h4
theorem Takes.tkS_mono (h : Takes tk enc) (s : RS) (j : Nat) : ∀ k, (tkS tk s k).e = false → j ≤ k → (tkS tk s j).e = false
 | 0, he, hj => by
  obtain rfl : j = 0 := by omega
  exact he
 | k + 1, he, hj => by
  by_cases e : j = k + 1
  · subst e; exact he
  · exact Takes.tkS_mono h s j k (h.back (tkS tk s k) he).1 (by omega)
theorem GotL.le (h : Takes tk enc) {most : Nat} {s s' : RS} {l : List α} (g : GotL tk most s l s') : s'.b.length ≤ s.b.length := by
 obtain ⟨j, _, _, _, _, rfl⟩ := g
 exact Nat.le_trans (h.tkS_le _ _) (RS.num_le s)
theorem GotL.same {most : Nat} {s s' : RS} {l : List α} (g : GotL tk most s l s') (he : s'.e = false) (hl : l.length ≤ most) : l = lstL tk most s ∧ s' = lstS tk most s := by
 obtain ⟨j, h5, hn, hj, rfl, rfl⟩ := g
 rw [tkL_len] at hl
 have e : j = s.num.1 := by
  rcases hj with h | h | h
  · exact h
  · omega
  · rw [he] at h; cases h
 have h4 : ¬ most < s.num.1 := by omega
 rw [lstL, lstS, if_neg h4, if_neg h4, ← e]
 exact ⟨rfl, rfl⟩
theorem GotL.prog (h : Takes tk enc) {most : Nat} {s s' : RS} {l : List α} (g : GotL tk most s l s') (he : (lstS tk most s).e = false) : l = lstL tk most s ∧ s' = lstS tk most s := by
 obtain ⟨j, h5, hn, hj, rfl, rfl⟩ := g
 have h4 : ¬ most < s.num.1 := fun h4 => by
  rw [lstS, if_pos h4] at he
  cases he
 rw [lstS, if_neg h4] at he
 have e : j = s.num.1 := by
  rcases hj with h' | h' | h'
  · exact h'
  · omega
  · rw [h.tkS_mono _ _ _ he hn] at h'; cases h'
 rw [lstL, lstS, if_neg h4, if_neg h4, ← e]
 exact ⟨rfl, rfl⟩
theorem Takes.lst_back (h : Takes tk enc) {most : Nat} {s : RS} (he : (lstS tk most s).e = false) : s.e = false ∧ s.b = encAll [((lstL tk most s).length : Int)] ++ ((lstL tk most s).flatMap enc ++ (lstS tk most s).b) ∧ (lstL tk most s).length ≤ most := by
 have h4 : ¬ most < s.num.1 := fun h4 => by
  rw [lstS, if_pos h4] at he
  cases he
 have e1 : lstS tk most s = tkS tk s.num.2 s.num.1 := by rw [lstS, if_neg h4]
 have e2 : lstL tk most s = tkL tk s.num.2 s.num.1 := by rw [lstL, if_neg h4]
 rw [e1] at he
 obtain ⟨b1, b2⟩ := h.tkS_back s.num.2 s.num.1 he
 obtain ⟨c1, c2, c3⟩ := num_back (s := s) b1
 refine ⟨c1, ?_, by rw [e2, tkL_len]; omega⟩
 rw [e1, e2, tkL_len, encN c3, ← b2]
 exact c2
end
end Go.Proofs.YtgjnjhhhbkidbaaGreat
end
section
open Go Go.RowKit
namespace Go.Proofs.YtgjnjhhhbkidbaaGreat
theorem nameL_le {l : List UInt8} (h : nameL l = true) : l.length ≤ 12 := by
 unfold nameL at h
 simp only [Bool.and_eq_true, decide_eq_true_eq] at h
 exact h.1.2
theorem nameE_le {l : List UInt8} (h : nameE l = true) : l.length ≤ 12 := by
 unfold nameE at h
 rw [Bool.or_eq_true] at h
 rcases h with h | h
 · rw [List.isEmpty_iff.1 h]
   decide
 · exact nameL_le h
end Go.Proofs.YtgjnjhhhbkidbaaGreat
end
