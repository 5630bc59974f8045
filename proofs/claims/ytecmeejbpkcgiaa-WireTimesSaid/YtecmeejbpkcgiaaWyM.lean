/- What is decoded is encoded as just these bytes. -/
import Derived.Test.YtecmeejbpkcgiaaWvB
open Go Go.RowKit
namespace Go.Proofs.Ytecmeejbpkcgiaa
theorem ofNat_toNat (c : UInt8) (n : Nat) (h : n = c.toNat) : UInt8.ofNat n = c := by subst h; exact UInt8.ofNat_toNat
theorem parse_back : ∀ (b : List UInt8) (i acc N : Nat) (r : List UInt8), parse i acc b = some (N, r) → ∃ n, N = acc + n * 128 ^ i ∧ b = enc n ++ r ∧ (0 < i → 0 < n) ∧ N ≤ 4611686018427387904
  | [], i, acc, N, r, h => by simp [parse] at h
  | c :: b, i, acc, N, r, h => by
    have hc := c.toNat_lt
    rw [parse] at h
    by_cases h9 : 9 ≤ i
    · rw [if_pos h9] at h
      cases h
    · rw [if_neg h9] at h
      by_cases h1 : 128 ≤ c.toNat
      · rw [if_pos h1] at h
        obtain ⟨n, e1, e2, e3, e4⟩ := parse_back b (i + 1) _ N r h
        have hn : 0 < n := e3 (by omega)
        refine ⟨c.toNat % 128 + 128 * n, ?_, ?_, fun _ => by omega, e4⟩
        · rw [e1, Nat.add_mul, Nat.pow_succ, Nat.add_assoc]
          congr 2
          rw [Nat.mul_comm 128 n, Nat.mul_assoc, Nat.mul_comm 128]
        · have hl : ¬ (c.toNat % 128 + 128 * n) < 128 := by omega
          rw [enc_large hl, show (c.toNat % 128 + 128 * n) % 128 + 128 = c.toNat by omega, show (c.toNat % 128 + 128 * n) / 128 = n by omega, ofNat_toNat c _ rfl, e2]
          rfl
      · rw [if_neg h1] at h
        by_cases h2 : 4611686018427387904 < acc + c.toNat % 128 * 128 ^ i ∨ (c.toNat = 0 ∧ 0 < i)
        · rw [if_pos h2] at h
          cases h
        · rw [if_neg h2] at h
          injection h with h
          injection h with ha hb
          subst hb
          have hm : c.toNat % 128 = c.toNat := by omega
          rw [hm] at ha h2
          refine ⟨c.toNat, ha.symm, ?_, fun hi => ?_, by omega⟩
          · rw [enc_small (by omega), ofNat_toNat c _ rfl]
            rfl
          · rcases Nat.eq_zero_or_pos c.toNat with h0 | h0
            · exact absurd (.inr ⟨h0, hi⟩) h2
            · exact h0
theorem num_back {s : RS} (h : s.num.2.e = false) : s.e = false ∧ s.b = enc s.num.1 ++ s.num.2.b ∧ s.num.1 ≤ 4611686018427387904 := by
  unfold RS.num at *
  cases he : s.e
  case true =>
    rw [he, if_pos rfl] at h
    rw [he] at h
    cases h
  case false =>
    rw [he, if_neg (by decide)] at h
    rw [if_neg (by decide)]
    cases hp : parse 0 0 s.b with
    | none =>
      rw [hp] at h
      cases h
    | some x =>
      obtain ⟨N, r⟩ := x
      obtain ⟨n, e1, e2, _, e4⟩ := parse_back s.b 0 0 N r hp
      have hN : N = n := by simpa using e1
      refine ⟨rfl, ?_, e4⟩
      show s.b = enc N ++ r
      rw [hN]
      exact e2
theorem raw_back {s : RS} {i : Int} (h : (s.raw i).2.e = false) : s.e = false ∧ 0 ≤ i ∧ s.b = (s.raw i).1 ++ (s.raw i).2.b ∧ ((s.raw i).1.length : Int) = i := by
  unfold RS.raw at *
  by_cases hc : s.e ∨ i < 0 ∨ (s.b.length : Int) < i
  · rw [if_pos hc] at h
    cases h
  · rw [if_neg hc]
    have h1 : s.e = false := by
      cases he : s.e
      · rfl
      · exact absurd (.inl he) hc
    have h2 : 0 ≤ i := Int.not_lt.1 (fun h => hc (.inr (.inl h)))
    have h3 : i ≤ (s.b.length : Int) := Int.not_lt.1 (fun h => hc (.inr (.inr h)))
    refine ⟨h1, h2, (List.take_append_drop _ _).symm, ?_⟩
    show ((s.b.take i.toNat).length : Int) = i
    rw [List.length_take]
    omega
theorem hsh_back {s : RS} (h : (s.raw 32).2.e = false) : s.e = false ∧ s.b = s.hsh.l ++ (s.raw 32).2.b := by
  obtain ⟨h1, _, h3, h4⟩ := raw_back h
  refine ⟨h1, ?_⟩
  rw [RS.hsh, dif_pos (by omega)]
  exact h3
theorem row_back {s : RS} (h : s.row.2.e = false) : s.e = false ∧ s.b = encRow s.row.1 ++ s.row.2.b := by
  unfold RS.row at *
  obtain ⟨h1, _, h3, h4⟩ := raw_back h
  obtain ⟨h5, h6, _⟩ := num_back h1
  refine ⟨h5, ?_⟩
  have hl : (s.num.2.raw (s.num.1 : Int)).1.length = s.num.1 := by omega
  rw [encRow, hl, List.append_assoc, ← h3]
  exact h6
theorem encN {n : Nat} (h : n ≤ 4611686018427387904) : encAll [(n : Int)] = enc n := by rw [encAll_one, clampN_nat n h]
theorem kind_back {k : Nat} {b : List UInt8} (h : (kindS k b).e = false) : b = enc k ++ (kindS k b).b := by
  unfold kindS at *
  by_cases hk : (⟨b, false⟩ : RS).num.1 = k
  · rw [if_pos hk] at h ⊢
    have h1 := (num_back h).2.1
    rw [hk] at h1
    exact h1
  · rw [if_neg hk] at h
    cases h
theorem whole_back {s : RS} (h : wholeB s = true) : s.e = false ∧ s.b = [] := by
  unfold wholeB at h
  rw [Bool.and_eq_true] at h
  exact ⟨by simpa using h.1, of_decide_eq_true h.2⟩
theorem encAll_app (a b : List Int) : encAll (a ++ b) = encAll a ++ encAll b := by simp [encAll]
/-- a time's bytes -/
def timE (v e s : Int) (h : H32) : List UInt8 := encAll [2] ++ (encAll [v, e, s] ++ h.l)
theorem tOk_back {b : List UInt8} (h : tOk b = true) : b = timE (tV (kindS 2 b)) (tE (kindS 2 b)) (tS (kindS 2 b)) (tH (kindS 2 b)) := by
  unfold tOk at h
  rw [Bool.and_eq_true] at h
  obtain ⟨h1, h2⟩ := whole_back h.1
  have hk : b = enc 2 ++ (kindS 2 b).b → _ := fun h => h
  generalize hS : kindS 2 b = S at *
  obtain ⟨a1, a2⟩ := hsh_back (s := S.at 3) h1
  obtain ⟨b1, b2, b3⟩ := num_back (s := S.at 2) a1
  obtain ⟨c1, c2, c3⟩ := num_back (s := S.at 1) b1
  obtain ⟨d1, d2, d3⟩ := num_back (s := S) c1
  have hb := kind_back (k := 2) (b := b) (by rw [hS]; exact d1)
  rw [hS] at hb
  have r0 : ((S.at 3).raw 32).2.b = [] := h2
  have g1 : tV S ≤ 4611686018427387904 := d3
  have g2 : tE S ≤ 4611686018427387904 := c3
  have g3 : tS S ≤ 4611686018427387904 := b3
  rw [r0, List.append_nil] at a2
  have e3 : encAll [(tV S : Int), tE S, tS S] = enc (tV S) ++ (enc (tE S) ++ enc (tS S)) := by
    rw [show [(tV S : Int), tE S, tS S] = [(tV S : Int)] ++ ([(tE S : Int)] ++ [(tS S : Int)]) from rfl, encAll_app, encAll_app, encN g1, encN g2, encN g3]
  rw [timE, e3, show encAll [2] = enc 2 from encN (n := 2) (by decide), hb, List.append_assoc, List.append_assoc]
  congr 1
  rw [d2]
  congr 1
  show (S.at 1).b = _
  rw [c2]
  congr 1
  show (S.at 2).b = _
  rw [b2]
  congr 1
/-- a report's bytes -/
def repE (l m : List UInt8) (h : H32) (c k : Int) : List UInt8 := encAll [5] ++ (encRow l ++ (encRow m ++ (h.l ++ encAll [c, k])))
theorem rOk_back {b : List UInt8} (h : rOk b = true) : b = repE (rU (kindS 5 b)) (rN (kindS 5 b)) (rH (kindS 5 b)) (rC (kindS 5 b)) (rK (kindS 5 b)) := by
  unfold rOk at h
  rw [Bool.and_eq_true] at h
  obtain ⟨h1, h2⟩ := whole_back h.1
  generalize hS : kindS 5 b = S at *
  obtain ⟨a1, a2, a3⟩ := num_back (s := (rS3 S).at 1) h1
  obtain ⟨b1, b2, b3⟩ := num_back (s := rS3 S) a1
  obtain ⟨c1, c2⟩ := hsh_back (s := rS2 S) b1
  obtain ⟨d1, d2⟩ := row_back (s := S.row.2) c1
  obtain ⟨f1, f2⟩ := row_back (s := S) d1
  have hb := kind_back (k := 5) (b := b) (by rw [hS]; exact f1)
  rw [hS] at hb
  have r0 : ((rS3 S).at 1).num.2.b = [] := h2
  have g1 : rC S ≤ 4611686018427387904 := b3
  have g2 : rK S ≤ 4611686018427387904 := a3
  rw [r0, List.append_nil] at a2
  have e3 : encAll [(rC S : Int), rK S] = enc (rC S) ++ enc (rK S) := by
    rw [show [(rC S : Int), rK S] = [(rC S : Int)] ++ [(rK S : Int)] from rfl, encAll_app, encN g1, encN g2]
  rw [repE, e3, show encAll [5] = enc 5 from encN (n := 5) (by decide), hb]
  congr 1
  rw [f2]
  congr 1
  rw [d2]
  congr 1
  show (rS2 S).b = _
  rw [c2]
  congr 1
  show (rS3 S).b = _
  rw [b2]
  congr 1
theorem u8_xor_eq (a b : UInt8) : bits .xor .u8 (a.toNat : Int) (b.toNat : Int) = ((a ^^^ b).toNat : Int) := by
  show IntKind.u8.wrap ((BitVec.ofInt 8 (a.toNat : Int) ^^^ BitVec.ofInt 8 (b.toNat : Int)).toNat : Int) = _
  have e : (BitVec.ofInt 8 (a.toNat : Int) ^^^ BitVec.ofInt 8 (b.toNat : Int)).toNat = (a ^^^ b).toNat := by
    rw [BitVec.ofInt_natCast, BitVec.ofInt_natCast, BitVec.toNat_xor, UInt8.toNat_xor]
    simp
  rw [e, IntKind.wrap_u8]
  have := (a ^^^ b).toNat_lt
  omega
theorem xor_ne (u : UInt8) (y : UInt8) (h : y ≠ 0) : b8 (bits .xor .u8 (u.toNat : Int) (y.toNat : Int)) ≠ u := by
  rw [u8_xor_eq, b8_self]
  intro e
  apply h
  have h1 : u ^^^ (u ^^^ y) = u ^^^ u := by rw [e]
  rw [← UInt8.xor_assoc, UInt8.xor_self, UInt8.zero_xor] at h1
  exact h1
end Go.Proofs.Ytecmeejbpkcgiaa
