/- SlJ -/
import Derived.Test.YtegdihpnefoolaaTjSlI
open Go Go.RowKit
namespace Go.Proofs.Ytegdihpnefoolaa
theorem page_get (s : FS) (j o : Nat) (h : o < 64) : (s.page j)[o]? = s.pages[j * 64 + o]? := by
  unfold FS.page
  rw [List.getElem?_take, if_pos h, List.getElem?_drop]
theorem slot_page (s : FS) (i j : Nat) (h : j < 2560) : (slotB s i)[j]? = (s.page (i * 40 + j / 64))[j % 64]? := by
  rw [page_get _ _ _ (Nat.mod_lt _ (by decide))]
  unfold slotB
  rw [List.getElem?_take, if_pos h, List.getElem?_drop]
  congr 1
  omega
def live (s : FS) : Prop := s.dead = false ∧ s.fused = false
/-- what a page holds that was erased and programmed -/
def fillP (b : List UInt8) (x : Nat) : List UInt8 := prog (ones 64) (pieceB b x)
theorem pieceB_le (b : List UInt8) (x : Nat) : (pieceB b x).length ≤ 64 := by
  rw [pieceB, List.length_take]
  omega
theorem fall_ones (b : List UInt8) (n : Nat) (h : b.length ≤ n) : fall ((ones n).take b.length) b = b := by
  unfold fall ones
  rw [List.take_replicate, Nat.min_eq_left h]
  clear h
  induction b with
  | nil => rfl
  | cons x l ih =>
    rw [List.length_cons, List.replicate_succ, List.zipWith_cons_cons, ih]
    congr 1
    apply UInt8.toBitVec_inj.1
    show BitVec.allOnes 8 &&& x.toBitVec = x.toBitVec
    exact BitVec.allOnes_and
theorem fillP_get {b : List UInt8} {x o : Nat} (h : 64 * x + o < b.length) (ho : o < 64) : (fillP b x)[o]? = b[64 * x + o]? := by
  unfold fillP prog
  rw [fall_ones _ _ (pieceB_le b x)]
  have hl : o < (pieceB b x).length := by
    rw [pieceB, List.length_take, List.length_drop]
    omega
  rw [List.getElem?_append_left hl, pieceB, List.getElem?_take, if_pos ho, List.getElem?_drop]
section
variable {N : Nat} {s : FS} {first many : Nat}
theorem erase_live (hl : s.pages.length = 64 * s.cap) (hc : N ≤ s.cap) (hv : live s) : ∀ k, first + k ≤ N → ∃ t, eraseK N s first k = (0, t) ∧ live t ∧ t.cap = s.cap ∧ t.pages.length = 64 * s.cap ∧ ∀ j, t.page j = if first ≤ j ∧ j < first + k then ones 64 else s.page j
  | 0, _ => ⟨s, rfl, hv, rfl, hl, fun j => by rw [if_neg (by omega)]⟩
  | k + 1, hk => by
    obtain ⟨t, h1, h2, h3, h4, h5⟩ := erase_live hl hc hv k (by omega)
    have e : eraseK N s first (k + 1) = (0, { t with pages := erD t.pages ((first + k) * 64) 64 }) := by
      rw [eraseK, h1, if_pos rfl]
      exact FS.change_plain h2.1 h2.2 (by omega) (by decide)
    refine ⟨_, e, h2, h3, ?_, fun j => ?_⟩
    · show (erD t.pages ((first + k) * 64) 64).length = _
      rw [erD_len (by omega), h4]
    · by_cases hj : j = first + k
      · subst hj
        rw [if_pos (by omega)]
        have := erD_page (s := t) (N := t.cap) (i := first + k) (by rw [h3]; exact h4) (by omega)
        exact this
      · have := erD_other (s := t) (N := t.cap) (i := first + k) (j := j) (by rw [h3]; exact h4) (by omega) hj
        rw [show ({ t with pages := erD t.pages ((first + k) * 64) 64 } : FS).page j = t.page j from this, h5 j]
        by_cases h6 : first ≤ j ∧ j < first + k
        · rw [if_pos h6, if_pos (by omega)]
        · rw [if_neg h6, if_neg (by omega)]
theorem prog_live {b : List UInt8} (hl : s.pages.length = 64 * s.cap) (hc : N ≤ s.cap) (hv : live s) (hm : first + many ≤ N) (hm0 : 0 < many) (he : ∀ x, x < many → s.page (first + x) = ones 64) : ∀ k, k ≤ many → ∃ t, progK N (0, s) first b many k = (0, t) ∧ live t ∧ t.cap = s.cap ∧ t.pages.length = 64 * s.cap ∧
    (∀ j, j < first ∨ first + many ≤ j → t.page j = s.page j) ∧ ∀ x, x < many → t.page (first + x) = if k = many ∨ (x ≠ 0 ∧ x ≤ k) then fillP b x else ones 64
  | 0, _ => ⟨s, rfl, hv, rfl, hl, fun _ _ => rfl, fun x hx => by rw [if_neg (by omega)]; exact he x hx⟩
  | k + 1, hk => by
    obtain ⟨t, h1, h2, h3, h4, h5, h6⟩ := prog_live hl hc hv hm hm0 he k (by omega)
    obtain ⟨q, hq⟩ : ∃ q, q = (k + 1) % many := ⟨_, rfl⟩
    have hqm : q < many := by rw [hq]; exact Nat.mod_lt _ hm0
    have hqv : (k + 1 < many ∧ q = k + 1) ∨ (k + 1 = many ∧ q = 0) := by
      by_cases h : k + 1 < many
      · exact .inl ⟨h, by rw [hq, Nat.mod_eq_of_lt h]⟩
      · have h' : k + 1 = many := by omega
        exact .inr ⟨h', by rw [hq, h', Nat.mod_self]⟩
    have e : progK N (0, s) first b many (k + 1) = (0, { t with pages := prD (pieceB b q) t.pages ((first + q) * 64) (pieceB b q).length }) := by
      rw [progK, h1, if_pos rfl, ← hq]
      exact FS.change_plain h2.1 h2.2 (by omega) (pieceB_le b q)
    have hold : t.page (first + q) = ones 64 := by
      rw [h6 q hqm, if_neg (by omega)]
    refine ⟨_, e, h2, h3, ?_, fun j hj => ?_, fun x hx => ?_⟩
    · show (prD (pieceB b q) t.pages ((first + q) * 64) (pieceB b q).length).length = _
      rw [prD_len (by have := pieceB_le b q; omega), h4]
    · have := prD_other (s := t) (N := t.cap) (i := first + q) (j := j) (b := pieceB b q) (by rw [h3]; exact h4) (by omega) (pieceB_le b q) (by omega)
      rw [show ({ t with pages := prD (pieceB b q) t.pages ((first + q) * 64) (pieceB b q).length } : FS).page j = t.page j from this]
      exact h5 j hj
    · by_cases hxq : x = q
      · subst hxq
        have := prD_page (s := t) (N := t.cap) (i := first + x) (b := pieceB b x) (by rw [h3]; exact h4) (by omega) (pieceB_le b x)
        rw [show ({ t with pages := prD (pieceB b x) t.pages ((first + x) * 64) (pieceB b x).length } : FS).page (first + x) = prog (t.page (first + x)) (pieceB b x) from this, hold, if_pos (by omega)]
        rfl
      · have := prD_other (s := t) (N := t.cap) (i := first + q) (j := first + x) (b := pieceB b q) (by rw [h3]; exact h4) (by omega) (pieceB_le b q) (by omega)
        rw [show ({ t with pages := prD (pieceB b q) t.pages ((first + q) * 64) (pieceB b q).length } : FS).page (first + x) = t.page (first + x) from this, h6 x hx]
        by_cases h7 : k = many ∨ (x ≠ 0 ∧ x ≤ k)
        · rw [if_pos h7, if_pos (by omega)]
        · rw [if_neg h7, if_neg (by omega)]
theorem write_live {b : List UInt8} (ok : s.ok N) (hv : live s) (hm : first + manyC b.length ≤ N) (h0 : 0 < b.length) : ∃ t, writeS N s first b = (0, t) ∧ live t ∧ (∀ j, j < first ∨ first + manyC b.length ≤ j → t.page j = s.page j) ∧ ∀ x, x < manyC b.length → t.page (first + x) = fillP b x := by
  obtain ⟨t, h1, h2, h3, h4, h5⟩ := erase_live (s := s) (first := first) ok.len ok.fit hv (manyC b.length) hm
  have hm0 : 0 < manyC b.length := by unfold manyC; omega
  obtain ⟨u, g1, g2, g3, g4, g5, g6⟩ := prog_live (s := t) (b := b) (by rw [h3]; exact h4) (by rw [h3]; exact ok.fit) h2 hm hm0 (fun x hx => by rw [h5, if_pos (by omega)]) (manyC b.length) (Nat.le_refl _)
  refine ⟨u, ?_, g2, fun j hj => ?_, fun x hx => ?_⟩
  · unfold writeS
    rw [h1]
    exact g1
  · rw [g5 j hj, h5 j, if_neg (by omega)]
  · rw [g6 x hx, if_pos (.inl rfl)]
theorem slot_other {t : FS} {i : Nat} {m : Nat} (_hi : i < 2) (hm : m ≤ 40) (h : ∀ j, j < i * 40 ∨ i * 40 + m ≤ j → t.page j = s.page j) (k : Nat) (_hk : k < 2) (hne : k ≠ i) (hlt : (slotB t k).length = 2560) (hls : (slotB s k).length = 2560) : slotB t k = slotB s k := by
  apply List.ext_getElem?
  intro j
  by_cases hj : j < 2560
  · rw [slot_page t k j hj, slot_page s k j hj, h _ (by omega)]
  · rw [List.getElem?_eq_none (by omega), List.getElem?_eq_none (by omega)]
theorem slot_written {t : FS} {i : Nat} {b : List UInt8} (hb : b.length ≤ 2560) (h : ∀ x, x < manyC b.length → t.page (i * 40 + x) = fillP b x) : (slotB t i).take b.length = b := by
  apply List.ext_getElem?
  intro j
  rw [List.getElem?_take]
  by_cases hj : j < b.length
  · have hx : j / 64 < manyC b.length := by unfold manyC; omega
    rw [if_pos hj, slot_page t i j (by omega), h _ hx, fillP_get (by omega) (Nat.mod_lt _ (by decide))]
    congr 1
    omega
  · rw [if_neg hj, List.getElem?_eq_none (by omega)]
end
theorem row_enc (b rest : List UInt8) (h : b.length ≤ 4611686018427387904) : (⟨encRow b ++ rest, false⟩ : RS).row = (b, ⟨rest, false⟩) := by
  unfold RS.row encRow
  rw [List.append_assoc, num_enc _ _ h]
  unfold RS.raw
  rw [if_neg (by
    rintro (h1 | h1 | h1)
    · cases h1
    · exact absurd h1 (by simp)
    · have h2 : ((b ++ rest).length : Int) < (b.length : Int) := h1
      rw [List.length_append] at h2
      omega)]
  show ((b ++ rest).take ((b.length : Int)).toNat, (⟨(b ++ rest).drop ((b.length : Int)).toNat, false⟩ : RS)) = _
  rw [Int.toNat_natCast, List.take_left, List.drop_left]
/-- bytes that begin with a record are that record -/
theorem unp_pack {n : Nat} {b rest : List UInt8} (h1 : 1 ≤ n) (h2 : n ≤ 1073741824) (hb : b.length ≤ 2500) : unpS (packS (n : Int) b ++ rest) = ⟨n, b, true⟩ := by
  have hc : clampN (n : Int) = n := by unfold clampN; omega
  have e0 : packS (n : Int) b ++ rest = enc n ++ (encRow b ++ (sha (packN (n : Int) b) ++ rest)) := by
    simp [packS, packN, encAll, hc]
  have e1 : (⟨packS (n : Int) b ++ rest, false⟩ : RS).num = (n, ⟨encRow b ++ (sha (packN (n : Int) b) ++ rest), false⟩) := by
    rw [e0]
    exact num_enc n _ (by omega)
  have e2 : (⟨packS (n : Int) b ++ rest, false⟩ : RS).num.2.row = (b, ⟨sha (packN (n : Int) b) ++ rest, false⟩) := by
    rw [e1]
    exact row_enc b _ (by omega)
  have n1 : rdN (packS (n : Int) b ++ rest) = n := by unfold rdN; rw [e1]
  have b1 : rdB (packS (n : Int) b ++ rest) = b := by unfold rdB; rw [e2]
  have E1 : rdE (packS (n : Int) b ++ rest) = false := by unfold rdE; rw [e2]
  have f1 : formB (packS (n : Int) b ++ rest) = true := by
    unfold formB
    rw [n1, b1, E1]
    simp
    omega
  unfold unpS
  rw [if_pos f1, n1, b1]
  have p1 : prefB (packS (n : Int) b ++ rest) (packS (n : Int) b) = true := by
    unfold prefB
    rw [List.take_left]
    simp
  rw [p1]
theorem unp_take {all : List UInt8} {n : Nat} {b : List UInt8} (h : all.take (packS (n : Int) b).length = packS (n : Int) b) (h1 : 1 ≤ n) (h2 : n ≤ 1073741824) (hb : b.length ≤ 2500) : unpS all = ⟨n, b, true⟩ := by
  have e : all = packS (n : Int) b ++ all.drop (packS (n : Int) b).length := by
    conv => lhs; rw [← List.take_append_drop (packS (n : Int) b).length all, h]
  rw [e]
  exact unp_pack h1 h2 hb
theorem best_mono (s : FS) (k : Nat) : (bestK s k).2.1 ≤ (bestK s (k + 1)).2.1 ∧ ((unpS (slotB s k)).ok = true → (unpS (slotB s k)).n ≤ (bestK s (k + 1)).2.1) := by
  by_cases h1 : (unpS (slotB s k)).ok = true
  · by_cases h2 : (bestK s k).2.1 < (unpS (slotB s k)).n
    · rw [bestK_up h1 h2]
      exact ⟨Nat.le_of_lt h2, fun _ => Nat.le_refl _⟩
    · rw [bestK_low h2]
      exact ⟨Nat.le_refl _, fun _ => by omega⟩
  · rw [bestK_no (by simpa using h1)]
    exact ⟨Nat.le_refl _, fun h => absurd h h1⟩
theorem best_all (s : FS) (k : Nat) (hk : k < 2) (h : (unpS (slotB s k)).ok = true) : (unpS (slotB s k)).n ≤ (bestS s).2.1 := by
  have m0 := best_mono s 0
  have m1 := best_mono s 1
  unfold bestS
  rcases (show k = 0 ∨ k = 1 by omega) with rfl | rfl
  · exact Nat.le_trans (m0.2 h) m1.1
  · exact m1.2 h
theorem packS_pos (n : Int) (b : List UInt8) : 32 ≤ (packS n b).length := by
  rw [packS_len]
  omega
/-- a save that nothing hinders -/
theorem save_live {N : Nat} {s : FS} {b : List UInt8} (ok : s.ok N) (hN : 80 ≤ N) (hv : live s) (hb : b.length ≤ 2500) (hn : (bestS s).2.1 < 1073741824) : ∃ t, saveS N s b = (0, t) ∧ live t ∧ (t.ok N → (bestS t).2 = ((bestS s).2.1 + 1, b)) := by
  obtain ⟨P, hP⟩ : ∃ P, P = packS (((bestS s).2.1 + 1 : Nat) : Int) b := ⟨_, rfl⟩
  have hpl : P.length ≤ 2550 ∧ 0 < P.length := by
    rw [hP, packS_len]
    have := packN_len (((bestS s).2.1 + 1 : Nat) : Int) b (by omega)
    omega
  obtain ⟨i, hi⟩ : ∃ i, i = if (bestS s).2.1 = 0 then 0 else 1 - (bestS s).1 := ⟨_, rfl⟩
  have hi2 : i < 2 := by rw [hi]; split <;> omega
  have hnx : nextP s = i * 40 := by rw [hi]; rfl
  have hmc : manyC P.length ≤ 40 := by unfold manyC; omega
  obtain ⟨t, h1, h2, h3, h4⟩ := write_live (s := s) (first := i * 40) (b := P) ok hv (by omega) hpl.2
  refine ⟨t, ?_, h2, fun okt => ?_⟩
  · unfold saveS
    rw [if_neg (by rw [hv.1]; decide), if_neg (by omega), if_neg (by omega), hnx, ← hP, h1]
  · have w1 : unpS (slotB t i) = ⟨(bestS s).2.1 + 1, b, true⟩ := by
      have h5 := slot_written (t := t) (i := i) (by omega) h4
      rw [hP] at h5
      exact unp_take h5 (by omega) (by omega) hb
    have w2 : ∀ k, k < 2 → k ≠ i → slotB t k = slotB s k := fun k hk hne => slot_other hi2 hmc h3 k hk hne (slotB_len okt hN k hk) (slotB_len ok hN k hk)
    have w3 : ∀ k, k < 2 → k ≠ i → (unpS (slotB t k)).ok = true → (unpS (slotB t k)).n ≤ (bestS s).2.1 := fun k hk hne h => by
      rw [w2 k hk hne] at h ⊢
      exact best_all s k hk h
    show (bestK t 2).2 = _
    rcases (show i = 0 ∨ i = 1 by omega) with h0 | h0
    · rw [h0] at w1
      have b1 : bestK t 1 = (0, (bestS s).2.1 + 1, b) := by
        have h := bestK_up (s := t) (k := 0) (by rw [w1]) (by rw [w1]; exact Nat.succ_pos _)
        rw [w1] at h
        exact h
      have b2 : bestK t 2 = bestK t 1 := by
        by_cases ho : (unpS (slotB t 1)).ok = true
        · exact bestK_low (by have := w3 1 (by decide) (by omega) ho; rw [b1]; show ¬ (bestS s).2.1 + 1 < _; omega)
        · exact bestK_no (by simpa using ho)
      rw [b2, b1]
    · rw [h0] at w1
      have b1 : (bestK t 1).2.1 ≤ (bestS s).2.1 := by
        by_cases ho : (unpS (slotB t 0)).ok = true
        · by_cases hlt : (bestK t 0).2.1 < (unpS (slotB t 0)).n
          · rw [bestK_up ho hlt]
            exact w3 0 (by decide) (by omega) ho
          · rw [bestK_low hlt]
            exact Nat.zero_le _
        · rw [bestK_no (by simpa using ho)]
          exact Nat.zero_le _
      have b2 := bestK_up (s := t) (k := 1) (by rw [w1]) (by rw [w1]; show (bestK t 1).2.1 < (bestS s).2.1 + 1; omega)
      rw [w1] at b2
      rw [b2]
theorem ones_bad : ∀ i acc k, 9 ≤ k + i → parse i acc (ones (k + 1)) = none := by
  intro i acc k
  induction k generalizing i acc with
  | zero => intro h; rw [show ones (0 + 1) = 255 :: ones 0 from rfl, parse, if_pos (by omega)]
  | succ k ih =>
    intro h
    rw [show ones (k + 1 + 1) = 255 :: ones (k + 1) from rfl, parse]
    split
    · rfl
    · rw [if_pos (by decide)]
      exact ih _ _ (by omega)
theorem unp_ones (n : Nat) (h : 10 ≤ n) : unpS (ones n) = ⟨0, [], false⟩ := by
  obtain ⟨k, rfl⟩ : ∃ k, n = k + 1 := ⟨n - 1, by omega⟩
  have e : (⟨ones (k + 1), false⟩ : RS).num = (0, RS.bad) := by
    unfold RS.num
    rw [if_neg (show ¬ false = true by decide)]
    show (match parse 0 0 (ones (k + 1)) with | some (n, r) => (n, (⟨r, false⟩ : RS)) | none => (0, RS.bad)) = _
    rw [ones_bad 0 0 k (by omega)]
  have n1 : rdN (ones (k + 1)) = 0 := by unfold rdN; rw [e]
  unfold unpS
  rw [if_neg (by unfold formB; rw [n1]; simp)]
theorem fresh_best (N : Nat) (hN : 80 ≤ N) : bestS (FS.fresh N) = (0, 0, []) := by
  have h : ∀ k, k < 2 → unpS (slotB (FS.fresh N) k) = ⟨0, [], false⟩ := fun k hk => by
    have e : slotB (FS.fresh N) k = ones 2560 := by
      unfold slotB FS.fresh ones
      rw [List.drop_replicate, List.take_replicate]
      congr 1
      omega
    rw [e]
    exact unp_ones 2560 (by decide)
  unfold bestS
  rw [bestK_no (by rw [h 1 (by decide)]), bestK_no (by rw [h 0 (by decide)])]
  rfl
theorem fresh_live (N : Nat) : live (FS.fresh N) := ⟨rfl, rfl⟩
end Go.Proofs.Ytegdihpnefoolaa
