/- BkA -/
import Derived.Test.YtegdihpnefoolaaTjSxC
import Derived.Test.YtegdihpnefoolaaTjRdN
open Go Go.RowKit
namespace Go.Proofs.Ytegdihpnefoolaa
structure BSt where
  bank : Nat
  size : Nat
  sum : H32
  cnt : Nat
  name : List UInt8
  mind : List UInt8
def bkZero : BSt := ⟨0, 0, zeroH, 0, [], []⟩
def BSt.enc (s : BSt) : List UInt8 := encAll [(s.bank : Int), (s.size : Int)] ++ (s.sum.l ++ (encAll [(s.cnt : Int)] ++ (encRow s.name ++ encRow s.mind)))
def RS.hsh32 (s : RS) : H32 := if h : (s.raw 32).1.length = 32 then ⟨(s.raw 32).1, h⟩ else zeroH
def bkS (b : List UInt8) : RS := ⟨b, false⟩
def dS2 (b : List UInt8) : RS := (bkS b).at 2
def dS3 (b : List UInt8) : RS := ((dS2 b).raw 32).2
def dS4 (b : List UInt8) : RS := (dS3 b).num.2
def dS5 (b : List UInt8) : RS := (dS4 b).row.2
def dS6 (b : List UInt8) : RS := (dS5 b).row.2
/-- the state that bytes are -/
def decS (b : List UInt8) : BSt := ⟨(bkS b).num.1, ((bkS b).at 1).num.1, (dS2 b).hsh32, (dS3 b).num.1, (dS4 b).row.1, (dS5 b).row.1⟩
def dOk (b : List UInt8) : Bool := !(dS6 b).e && decide ((dS6 b).b = []) && decide ((decS b).bank < 2) && decide ((decS b).size ≤ 512)
theorem row_enc2 (b rest : List UInt8) (h : b.length ≤ 1000000) : (⟨encRow b ++ rest, false⟩ : RS).row = (b, ⟨rest, false⟩) := row_enc b rest (by omega)
theorem raw_enc (h : H32) (rest : List UInt8) : (⟨h.l ++ rest, false⟩ : RS).raw 32 = (h.l, ⟨rest, false⟩) := by
  have hl := h.len
  unfold RS.raw
  rw [if_neg (by
    rintro (h1 | h1 | h1)
    · cases h1
    · exact absurd h1 (by decide)
    · have h2 : ((h.l ++ rest).length : Int) < 32 := h1
      rw [List.length_append] at h2
      omega)]
  show ((h.l ++ rest).take 32, (⟨(h.l ++ rest).drop 32, false⟩ : RS)) = _
  rw [← hl, List.take_left, List.drop_left]
/-- a state that may be is read as it was laid -/
theorem dec_enc {s : BSt} (h1 : s.bank < 2) (h2 : s.size ≤ 512) (h3 : s.cnt ≤ 1073741824) (h4 : s.name.length ≤ 1000000) (h5 : s.mind.length ≤ 1000000) : dOk s.enc = true ∧ decS s.enc = s := by
  have c1 : clampN (s.bank : Int) = s.bank := clampN_nat _ (by omega)
  have c2 : clampN (s.size : Int) = s.size := clampN_nat _ (by omega)
  have c3 : clampN (s.cnt : Int) = s.cnt := clampN_nat _ (by omega)
  have e0 : bkS s.enc = ⟨Go.Proofs.Ytegdihpnefoolaa.enc s.bank ++ (Go.Proofs.Ytegdihpnefoolaa.enc s.size ++ (s.sum.l ++ (Go.Proofs.Ytegdihpnefoolaa.enc s.cnt ++ (encRow s.name ++ (encRow s.mind ++ []))))), false⟩ := by
    simp [bkS, BSt.enc, encAll, c1, c2, c3]
  have n1 : (bkS s.enc).num = (s.bank, ⟨Go.Proofs.Ytegdihpnefoolaa.enc s.size ++ (s.sum.l ++ (Go.Proofs.Ytegdihpnefoolaa.enc s.cnt ++ (encRow s.name ++ (encRow s.mind ++ [])))), false⟩) := by
    rw [e0]
    exact num_enc _ _ (by omega)
  have a1 : (bkS s.enc).at 1 = ⟨Go.Proofs.Ytegdihpnefoolaa.enc s.size ++ (s.sum.l ++ (Go.Proofs.Ytegdihpnefoolaa.enc s.cnt ++ (encRow s.name ++ (encRow s.mind ++ [])))), false⟩ := by
    show (bkS s.enc).num.2 = _
    rw [n1]
  have n2 : ((bkS s.enc).at 1).num = (s.size, ⟨s.sum.l ++ (Go.Proofs.Ytegdihpnefoolaa.enc s.cnt ++ (encRow s.name ++ (encRow s.mind ++ []))), false⟩) := by
    rw [a1]
    exact num_enc _ _ (by omega)
  have a2 : dS2 s.enc = ⟨s.sum.l ++ (Go.Proofs.Ytegdihpnefoolaa.enc s.cnt ++ (encRow s.name ++ (encRow s.mind ++ []))), false⟩ := by
    show ((bkS s.enc).at 1).num.2 = _
    rw [n2]
  have r1 := raw_enc s.sum (Go.Proofs.Ytegdihpnefoolaa.enc s.cnt ++ (encRow s.name ++ (encRow s.mind ++ [])))
  rw [← a2] at r1
  have hh : (dS2 s.enc).hsh32 = s.sum := by
    unfold RS.hsh32
    rw [r1]
    rw [dif_pos s.sum.len]
  have a3 : dS3 s.enc = ⟨Go.Proofs.Ytegdihpnefoolaa.enc s.cnt ++ (encRow s.name ++ (encRow s.mind ++ [])), false⟩ := by
    unfold dS3
    rw [r1]
  have n3 : (dS3 s.enc).num = (s.cnt, ⟨encRow s.name ++ (encRow s.mind ++ []), false⟩) := by
    rw [a3]
    exact num_enc _ _ (by omega)
  have a4 : dS4 s.enc = ⟨encRow s.name ++ (encRow s.mind ++ []), false⟩ := by
    unfold dS4
    rw [n3]
  have r4 : (dS4 s.enc).row = (s.name, ⟨encRow s.mind ++ [], false⟩) := by
    rw [a4]
    exact row_enc2 _ _ h4
  have a5 : dS5 s.enc = ⟨encRow s.mind ++ [], false⟩ := by
    unfold dS5
    rw [r4]
  have r5 : (dS5 s.enc).row = (s.mind, ⟨[], false⟩) := by
    rw [a5]
    exact row_enc2 _ _ h5
  have a6 : dS6 s.enc = ⟨[], false⟩ := by
    unfold dS6
    rw [r5]
  have hd : decS s.enc = s := by
    unfold decS
    rw [n1, n2, hh, n3, r4, r5]
  refine ⟨?_, hd⟩
  unfold dOk
  rw [hd, a6]
  simp [h1, h2]
theorem enc_size {s : BSt} (h2 : s.name.length ≤ 1000000) (h3 : s.mind.length ≤ 1000000) : s.enc.length ≤ s.name.length + s.mind.length + 77 := by
  have e1 := encAll_len [(s.bank : Int), (s.size : Int)]
  have e2 := encAll_len [(s.cnt : Int)]
  have e3 := encRow_len s.name (by omega)
  have e4 := encRow_len s.mind (by omega)
  have e5 := s.sum.len
  unfold BSt.enc
  simp only [List.length_append, List.length_cons, List.length_nil] at *
  omega
/-- the bytes of a bank -/
def bankB (s : FS) (i : Nat) : List UInt8 := (s.pages.drop ((80 + i * 8) * 64)).take 512
theorem bankB_flat {s : FS} {N : Nat} (h : s.ok N) (hN : 96 ≤ N) (i : Nat) (hi : i < 2) : ((List.range 8).map fun j => s.page (80 + i * 8 + j)).flatten = bankB s i := by
  rw [pages_flat h (80 + i * 8) 8 (by omega)]
  rfl
theorem bankB_len {s : FS} {N : Nat} (h : s.ok N) (hN : 96 ≤ N) (i : Nat) (hi : i < 2) : (bankB s i).length = 512 := by
  have hl := h.len
  have hf := h.fit
  unfold bankB
  rw [List.length_take, List.length_drop]
  omega
/-- what boots -/
def bootS (N : Nat) (s : FS) : BSt × List UInt8 × Nat :=
  if N < 96 then (bkZero, [], 1) else if (bestS s).2.1 = 0 then (bkZero, [], 9)
  else if dOk (bestS s).2.2 = true then (if sha ((bankB s (decS (bestS s).2.2).bank).take (decS (bestS s).2.2).size) = (decS (bestS s).2.2).sum.l then (decS (bestS s).2.2, (bankB s (decS (bestS s).2.2).bank).take (decS (bestS s).2.2).size, 0) else (bkZero, [], 8))
  else (bkZero, [], 2)
/-- pages programmed in their order -/
def progA (N : Nat) (r0 : Nat × FS) (first : Nat) (b : List UInt8) : Nat → Nat × FS
  | 0 => r0
  | k + 1 => if (progA N r0 first b k).1 = 0 then (progA N r0 first b k).2.change N ((first + k : Nat) : Int) (pieceB b k).length (prD (pieceB b k)) else progA N r0 first b k
/-- what laying an image from a page on answers, and leaves -/
def layS (N : Nat) (s : FS) (first : Nat) (b : List UInt8) : Nat × FS := progA N (eraseK N s first (manyC b.length)) first b (manyC b.length)
theorem progA_stop {N : Nat} {r0 : Nat × FS} {first k : Nat} {b : List UInt8} (h : (progA N r0 first b k).1 ≠ 0) : ∀ j, progA N r0 first b (k + j) = progA N r0 first b k
  | 0 => rfl
  | j + 1 => by
    have ih := progA_stop h j
    show (if (progA N r0 first b (k + j)).1 = 0 then _ else progA N r0 first b (k + j)) = _
    rw [ih, if_neg h]
theorem lay_erase {N : Nat} {s : FS} {first k : Nat} {b : List UInt8} (hk : k ≤ manyC b.length) (h : (eraseK N s first k).1 ≠ 0) : layS N s first b = eraseK N s first k := by
  obtain ⟨j, hj⟩ : ∃ j, manyC b.length = k + j := ⟨_, (Nat.add_sub_of_le hk).symm⟩
  have e := eraseK_stop h j
  have h0 : (progA N (eraseK N s first (manyC b.length)) first b 0).1 ≠ 0 := by
    show (eraseK N s first (manyC b.length)).1 ≠ 0
    rw [hj, e]
    exact h
  have e2 := progA_stop h0 (manyC b.length)
  rw [Nat.zero_add] at e2
  unfold layS
  rw [e2]
  show eraseK N s first (manyC b.length) = _
  rw [hj, e]
theorem lay_prog {N : Nat} {s : FS} {first k : Nat} {b : List UInt8} (hk : k ≤ manyC b.length) (h : (progA N (eraseK N s first (manyC b.length)) first b k).1 ≠ 0) : layS N s first b = progA N (eraseK N s first (manyC b.length)) first b k := by
  obtain ⟨j, hj⟩ : ∃ j, manyC b.length = k + j := ⟨_, (Nat.add_sub_of_le hk).symm⟩
  have e := progA_stop h j
  rw [← hj] at e
  exact e
theorem progA_ok {N : Nat} {r0 : Nat × FS} (first : Nat) (b : List UInt8) (h : r0.2.ok N) : ∀ k, (progA N r0 first b k).2.ok N
  | 0 => h
  | k + 1 => by
    have ih := progA_ok first b h k
    rw [progA]
    split
    · exact pr_ok _ _ _ ih
    · exact ih
theorem layS_ok {N : Nat} {s : FS} (first : Nat) (b : List UInt8) (h : s.ok N) : (layS N s first b).2.ok N := progA_ok first b (eraseK_ok first h _) _
/-- what Install answers, and leaves -/
def nextBank (N : Nat) (s : FS) : Nat := if (bootS N s).2.2 = 0 then 1 - (bootS N s).1.bank else 0
def nextSt (N : Nat) (s : FS) (nm img : List UInt8) (cnt : Int) (mind : List UInt8) : BSt := ⟨nextBank N s, img.length, ⟨sha img, sha_len _⟩, cnt.toNat, nm, mind⟩
def instS (N : Nat) (s : FS) (nm img : List UInt8) (cnt : Int) (mind : List UInt8) : Nat × FS :=
  if N < 96 then (1, s) else if s.dead = true then (11, s) else if 512 < img.length ∨ 12 < nm.length ∨ 2000 < mind.length then (10, s)
  else if cnt < 0 ∨ 1073741824 < cnt then (1, s) else if (bootS N s).2.2 ≠ 0 ∧ (bootS N s).2.2 ≠ 9 then ((bootS N s).2.2, s)
  else if (bootS N s).2.2 = 0 ∧ cnt < ((bootS N s).1.cnt : Int) then (5, s)
  else if (layS N s (80 + nextBank N s * 8) img).1 ≠ 0 then layS N s (80 + nextBank N s * 8) img
  else saveN N (layS N s (80 + nextBank N s * 8) img).2 (nextSt N s nm img cnt mind).enc
/-- what Keep answers, and leaves -/
def keepS (N : Nat) (s : FS) (mind : List UInt8) : Nat × FS :=
  if (bootS N s).2.2 ≠ 0 then ((bootS N s).2.2, s) else if 2000 < mind.length then (10, s) else saveN N s (BSt.enc { (bootS N s).1 with mind := mind })
end Go.Proofs.Ytegdihpnefoolaa
