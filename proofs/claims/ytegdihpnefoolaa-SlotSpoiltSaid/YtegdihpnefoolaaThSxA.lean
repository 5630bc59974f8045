/- SxA -/
import Derived.Test.YtegdihpnefoolaaThSlY
open Go Go.RowKit
namespace Go.Proofs.Ytegdihpnefoolaa
theorem burn_dead (s : FS) : s.burn.2.dead = s.dead := by
  unfold FS.burn
  split
  · rfl
  · split <;> rfl
/-- a deed on a page, whether it is cut or not -/
theorem change_at {N : Nat} {s : FS} {i m : Nat} {f : Deed} {F : List UInt8 → Nat → List UInt8} (ok : s.ok N) (hd : s.dead = false) (hi : i < N) (hm : m ≤ 64) (hf : Deals f F N m) :
    (((s.change N i m f).1 = 0 ∧ (s.change N i m f).2.dead = false ∧ (s.change N i m f).2.page i = F (s.page i) m) ∨ ((s.change N i m f).1 = 11 ∧ ∃ k, k ≤ m ∧ (s.change N i m f).2.page i = F (s.page i) k)) ∧
    ∀ j, j < N → j ≠ i → (s.change N i m f).2.page j = s.page j := by
  obtain ⟨e1, e2⟩ := hf s i (min m s.tear) ok.len ok.fit hi (Nat.min_le_left _ _) (by omega)
  obtain ⟨d1, d2⟩ := hf s i m ok.len ok.fit hi (Nat.le_refl _) hm
  unfold FS.change
  rw [if_neg (by rw [hd]; decide), if_neg (by omega), Int.toNat_natCast]
  split
  · exact ⟨.inr ⟨rfl, _, Nat.min_le_left _ _, e1⟩, fun j hj hji => e2 j hj hji⟩
  · exact ⟨.inl ⟨rfl, (burn_dead s).trans hd, d1⟩, fun j hj hji => d2 j hj hji⟩
theorem erF_ones (k : Nat) (hk : k ≤ 64) : erF (ones 64) k = ones 64 := by
  unfold erF ones
  rw [List.drop_replicate, List.replicate_append_replicate]
  congr 1
  omega
theorem erF_all {p : List UInt8} (h : p.length = 64) : erF p 64 = ones 64 := by
  unfold erF ones
  rw [List.drop_eq_nil_of_le (by omega), List.append_nil]
theorem page_len' {s : FS} {N j : Nat} (ok : s.ok N) (hj : j < N) : (s.page j).length = 64 := by
  have h1 := ok.len
  have h2 := ok.fit
  unfold FS.page
  rw [List.length_take, List.length_drop]
  omega
section
variable {N : Nat} {s : FS} {first many : Nat}
theorem erase_cut (ok : s.ok N) (hv : s.dead = false) : ∀ k, first + k ≤ N → (∀ j, j < N → ¬ (first ≤ j ∧ j < first + k) → (eraseK N s first k).2.page j = s.page j) ∧
    (s.page first = ones 64 → first < N → (eraseK N s first k).2.page first = ones 64) ∧
    (((eraseK N s first k).1 = 0 ∧ (eraseK N s first k).2.dead = false ∧ ∀ x, x < k → (eraseK N s first k).2.page (first + x) = ones 64) ∨ (eraseK N s first k).1 = 11)
  | 0, _ => ⟨fun _ _ _ => rfl, fun h _ => h, .inl ⟨rfl, hv, fun _ h => absurd h (Nat.not_lt_zero _)⟩⟩
  | k + 1, hk => by
    obtain ⟨h1, h2, h3⟩ := erase_cut ok hv k (by omega)
    have okt := eraseK_ok first ok k
    generalize ht : eraseK N s first k = r at *
    rcases h3 with ⟨g1, g2, g3⟩ | g1
    · have e : eraseK N s first (k + 1) = r.2.change N ((first + k : Nat) : Int) 64 erD := by
        rw [eraseK, ht, if_pos g1]
      obtain ⟨c1, c2⟩ := change_at (i := first + k) (m := 64) okt g2 (by omega) (by decide) (deals_er N 64)
      rw [e]
      refine ⟨fun j hj hn => ?_, fun h hf => ?_, ?_⟩
      · rw [c2 j hj (by omega), h1 j hj (by omega)]
      · by_cases h0 : k = 0
        · subst h0
          rcases c1 with ⟨_, _, c⟩ | ⟨_, q, hq, c⟩
          · have c' : (r.2.change N ((first + 0 : Nat) : Int) 64 erD).2.page first = _ := c
            rw [c', show first + 0 = first from rfl, h2 h hf, erF_ones _ (by decide)]
          · have c' : (r.2.change N ((first + 0 : Nat) : Int) 64 erD).2.page first = _ := c
            rw [c', show first + 0 = first from rfl, h2 h hf, erF_ones _ hq]
        · rw [c2 first hf (by omega), h2 h hf]
      · rcases c1 with ⟨c0, c3, c⟩ | ⟨c0, _⟩
        · refine .inl ⟨c0, c3, fun x hx => ?_⟩
          by_cases hxk : x = k
          · subst hxk
            rw [c, erF_all (page_len' okt (by omega))]
          · rw [c2 (first + x) (by omega) (by omega), g3 x (by omega)]
        · exact .inr c0
    · have e : eraseK N s first (k + 1) = r := by
        rw [eraseK, ht, if_neg (by rw [g1]; decide)]
      rw [e]
      exact ⟨fun j hj hn => h1 j hj (by omega), h2, .inr g1⟩
theorem prog_cut {b : List UInt8} {r0 : Nat × FS} (ok : r0.2.ok N) (hm : first + many ≤ N) (hm0 : 0 < many) (h0 : r0.1 = 0 ∧ r0.2.dead = false ∧ ∀ x, x < many → r0.2.page (first + x) = ones 64) : ∀ k, k ≤ many → (∀ j, j < N → ¬ (first ≤ j ∧ j < first + many) → (progK N r0 first b many k).2.page j = r0.2.page j) ∧
    ((progK N r0 first b many k).2.page first = ones 64 ∨ ∃ q, q ≤ (pieceB b 0).length ∧ (progK N r0 first b many k).2.page first = prF (pieceB b 0) (ones 64) q) ∧
    (((progK N r0 first b many k).1 = 0 ∧ (progK N r0 first b many k).2.dead = false ∧ ∀ x, x < many → (progK N r0 first b many k).2.page (first + x) = if k = many ∨ (x ≠ 0 ∧ x ≤ k) then fillP b x else ones 64) ∨ (progK N r0 first b many k).1 = 11)
  | 0, _ => ⟨fun _ _ _ => rfl, .inl (h0.2.2 0 hm0), .inl ⟨h0.1, h0.2.1, fun x hx => by rw [if_neg (by omega)]; exact h0.2.2 x hx⟩⟩
  | k + 1, hk => by
    obtain ⟨h1, h2, h3⟩ := prog_cut (b := b) ok hm hm0 h0 k (by omega)
    have okt := progK_ok first b many ok k
    generalize ht : progK N r0 first b many k = r at *
    obtain ⟨q, hq⟩ : ∃ q, q = (k + 1) % many := ⟨_, rfl⟩
    have hqm : q < many := by rw [hq]; exact Nat.mod_lt _ hm0
    have hqv : (k + 1 < many ∧ q = k + 1) ∨ (k + 1 = many ∧ q = 0) := by
      by_cases h : k + 1 < many
      · exact .inl ⟨h, by rw [hq, Nat.mod_eq_of_lt h]⟩
      · have h' : k + 1 = many := by omega
        exact .inr ⟨h', by rw [hq, h', Nat.mod_self]⟩
    rcases h3 with ⟨g1, g2, g3⟩ | g1
    · have e : progK N r0 first b many (k + 1) = r.2.change N ((first + q : Nat) : Int) (pieceB b q).length (prD (pieceB b q)) := by
        rw [progK, ht, if_pos g1, ← hq]
      obtain ⟨c1, c2⟩ := change_at (i := first + q) (m := (pieceB b q).length) okt g2 (by omega) (pieceB_le b q) (deals_pr (pieceB b q) N)
      have hold : r.2.page (first + q) = ones 64 := by
        rw [g3 q hqm, if_neg (by omega)]
      rw [e]
      refine ⟨fun j hj hn => ?_, ?_, ?_⟩
      · rw [c2 j hj (by omega), h1 j hj hn]
      · rcases hqv with ⟨v1, v2⟩ | ⟨v1, v2⟩
        · rw [c2 first (by omega) (by omega)]
          exact h2
        · subst v2
          rcases c1 with ⟨_, _, c⟩ | ⟨_, y, hy, c⟩
          · exact .inr ⟨_, Nat.le_refl _, by rw [← hold]; exact c⟩
          · exact .inr ⟨y, hy, by rw [← hold]; exact c⟩
      · rcases c1 with ⟨c0, c3, c⟩ | ⟨c0, _⟩
        · refine .inl ⟨c0, c3, fun x hx => ?_⟩
          by_cases hxq : x = q
          · rw [if_pos (by omega)]
            subst hxq
            rw [c, hold]
            unfold prF fillP prog
            rw [List.take_length]
          · rw [c2 (first + x) (by omega) (by omega), g3 x hx]
            by_cases h7 : k = many ∨ (x ≠ 0 ∧ x ≤ k)
            · rw [if_pos h7, if_pos (by omega)]
            · rw [if_neg h7, if_neg (by omega)]
        · exact .inr c0
    · have e : progK N r0 first b many (k + 1) = r := by
        rw [progK, ht, if_neg (by rw [g1]; decide)]
      rw [e]
      exact ⟨h1, h2, .inr g1⟩
/-- bytes laid into pages, whether it is cut or not -/
theorem write_cut {b : List UInt8} (ok : s.ok N) (hv : s.dead = false) (hm : first + manyC b.length ≤ N) (h0 : 0 < b.length) :
    (∀ j, j < N → ¬ (first ≤ j ∧ j < first + manyC b.length) → (writeS N s first b).2.page j = s.page j) ∧
    (s.page first = ones 64 → ((writeS N s first b).2.page first = ones 64 ∨ ∃ q, q ≤ (pieceB b 0).length ∧ (writeS N s first b).2.page first = prF (pieceB b 0) (ones 64) q)) ∧
    ((writeS N s first b).1 = 0 → ∀ x, x < manyC b.length → (writeS N s first b).2.page (first + x) = fillP b x) := by
  have hm0 : 0 < manyC b.length := by unfold manyC; omega
  obtain ⟨h1, h2, h3⟩ := erase_cut (s := s) (first := first) ok hv (manyC b.length) hm
  have okt := eraseK_ok first ok (manyC b.length)
  unfold writeS
  generalize ht : eraseK N s first (manyC b.length) = r at *
  rcases h3 with g | g1
  · obtain ⟨k1, k2, k3⟩ := prog_cut (b := b) okt hm hm0 g (manyC b.length) (Nat.le_refl _)
    refine ⟨fun j hj hn => by rw [k1 j hj hn, h1 j hj hn], fun _ => k2, fun h x hx => ?_⟩
    rcases k3 with ⟨_, _, k3⟩ | k3
    · rw [k3 x hx, if_pos (.inl rfl)]
    · rw [k3] at h
      cases h
  · have e := progK_stop (first := first) (b := b) (many := manyC b.length) (k := 0) (r0 := r) (N := N) (by show r.1 ≠ 0; rw [g1]; decide) (manyC b.length)
    rw [Nat.zero_add] at e
    have e' : progK N r first b (manyC b.length) (manyC b.length) = r := e
    rw [e']
    exact ⟨h1, fun h => .inl (h2 h (by omega)), fun h => by rw [g1] at h; cases h⟩
end
theorem slot_same {s t : FS} {i : Nat} (h : ∀ j, i * 40 ≤ j → j < i * 40 + 40 → t.page j = s.page j) (hlt : (slotB t i).length = 2560) (hls : (slotB s i).length = 2560) : slotB t i = slotB s i := by
  apply List.ext_getElem?
  intro j
  by_cases hj : j < 2560
  · rw [slot_page t i j hj, slot_page s i j hj, h _ (by omega) (by omega)]
  · rw [List.getElem?_eq_none (by omega), List.getElem?_eq_none (by omega)]
theorem ones_bad2 : ∀ (k i acc : Nat) (l : List UInt8), (∀ j, j ≤ k → l[j]? = some 255) → 9 ≤ k + i → parse i acc l = none := by
  intro k
  induction k with
  | zero =>
    intro i acc l h h9
    obtain ⟨x, l', rfl⟩ : ∃ x l', l = x :: l' := by
      have := h 0 (Nat.le_refl _)
      cases l with
      | nil => cases this
      | cons x l' => exact ⟨x, l', rfl⟩
    have hx := h 0 (Nat.le_refl _)
    simp at hx
    subst hx
    rw [parse, if_pos (by omega)]
  | succ k ih =>
    intro i acc l h h9
    obtain ⟨x, l', rfl⟩ : ∃ x l', l = x :: l' := by
      have := h 0 (Nat.zero_le _)
      cases l with
      | nil => cases this
      | cons x l' => exact ⟨x, l', rfl⟩
    have hx := h 0 (Nat.zero_le _)
    simp at hx
    subst hx
    rw [parse]
    split
    · rfl
    · rw [if_pos (by decide)]
      exact ih _ _ _ (fun j hj => by have := h (j + 1) (by omega); simpa using this) (by omega)
theorem unp_head {all : List UInt8} (h : ∀ j, j < 10 → all[j]? = some 255) : (unpS all).ok = false := by
  have e : (⟨all, false⟩ : RS).num = (0, RS.bad) := by
    unfold RS.num
    rw [if_neg (show ¬ false = true by decide)]
    show (match parse 0 0 all with | some (n, r) => (n, (⟨r, false⟩ : RS)) | none => (0, RS.bad)) = _
    rw [ones_bad2 9 0 0 all (fun j hj => h j (by omega)) (by omega)]
  have n1 : rdN all = 0 := by unfold rdN; rw [e]
  unfold unpS
  rw [if_neg (by unfold formB; rw [n1]; simp)]
theorem unp_two {all : List UInt8} (h : all[0]? = some 2) (hok : (unpS all).ok = true) : (unpS all).n = 2 := by
  obtain ⟨x, l', rfl⟩ : ∃ x l', all = x :: l' := by
    cases all with
    | nil => cases h
    | cons x l' => exact ⟨x, l', rfl⟩
  simp at h
  subst h
  have e : (⟨2 :: l', false⟩ : RS).num = (2, ⟨l', false⟩) := by
    have := num_enc 2 l' (by decide)
    rw [enc_small (by decide)] at this
    exact this
  have n1 : rdN (2 :: l') = 2 := by unfold rdN; rw [e]
  unfold unpS at *
  split at hok
  · rename_i hf
    rw [if_pos hf]
    exact n1
  · cases hok
/-- what a save of two leaves in a slot that was empty: no record, or one of number 2 -/
theorem slot_torn {t : FS} {b : List UInt8} (h : t.page 40 = ones 64 ∨ ∃ q, q ≤ (pieceB (packS 2 b) 0).length ∧ t.page 40 = prF (pieceB (packS 2 b) 0) (ones 64) q) (hok : (unpS (slotB t 1)).ok = true) : (unpS (slotB t 1)).n = 2 := by
  have hp : ∀ j, j < 10 → (slotB t 1)[j]? = (t.page 40)[j]? := fun j hj => by
    rw [slot_page t 1 j (by omega), show 1 * 40 + j / 64 = 40 by omega, show j % 64 = j by omega]
  have hone : t.page 40 = ones 64 → False := fun e => by
    have := unp_head (all := slotB t 1) (fun j hj => by
      rw [hp j hj, e]
      unfold ones
      rw [List.getElem?_replicate, if_pos (by omega)])
    rw [this] at hok
    cases hok
  rcases h with h | ⟨q, hq, h⟩
  · exact (hone h).elim
  · rcases q with _ | q
    · exact (hone (by rw [h]; simp [prF, fall])).elim
    · refine unp_two ?_ hok
      rw [hp 0 (by decide), h]
      have e0 : (packS 2 b)[0]? = some 2 := by
        have hc : clampN 2 = 2 := by decide
        simp [packS, packN, encAll, hc, enc_small]
      have e1 : pieceB (packS 2 b) 0 = 2 :: (pieceB (packS 2 b) 0).drop 1 := by
        obtain ⟨l, hl⟩ : ∃ l, packS 2 b = 2 :: l := by
          generalize packS 2 b = z at e0
          cases z with
          | nil => cases e0
          | cons x l' =>
            simp at e0
            exact ⟨l', by rw [e0]⟩
        rw [hl]
        simp [pieceB]
      rw [e1]
      unfold prF fall ones
      simp [List.replicate]
      decide
theorem bestS_two {t : FS} {a : List UInt8} (h0 : unpS (slotB t 0) = ⟨1, a, true⟩) (h1 : (unpS (slotB t 1)).ok = true → (unpS (slotB t 1)).n = 2) : (bestS t).2 = (1, a) ∨ ((unpS (slotB t 1)).ok = true ∧ (bestS t).2 = (2, (unpS (slotB t 1)).b)) := by
  have b1 : bestK t 1 = (0, 1, a) := by
    have h := bestK_up (s := t) (k := 0) (by rw [h0]) (by rw [h0]; exact Nat.succ_pos _)
    rw [h0] at h
    exact h
  unfold bestS
  rcases ho : (unpS (slotB t 1)).ok with _ | _
  · rw [bestK_no (k := 1) ho, b1]
    exact .inl rfl
  · rw [bestK_up (k := 1) ho (by rw [b1, h1 ho]; show 1 < 2; decide), h1 ho]
    exact .inr ⟨rfl, rfl⟩
theorem fresh_page (N j : Nat) (h : j < N) : (FS.fresh N).page j = ones 64 := by
  unfold FS.page FS.fresh ones
  rw [List.drop_replicate, List.take_replicate]
  congr 1
  omega
/-- the first save on a flash that is new -/
theorem first_save {a : List UInt8} (ha : a.length ≤ 2500) : ∃ s, saveN 80 (FS.fresh 80) a = (0, s) ∧ live s ∧ s.ok 80 ∧ unpS (slotB s 0) = ⟨1, a, true⟩ ∧ (∀ j, 40 ≤ j → j < 80 → s.page j = ones 64) ∧ bestS s = (0, 1, a) := by
  have okf : (FS.fresh 80).ok 80 := FS.fresh_ok (by decide)
  have hb0 := fresh_best 80 (by decide)
  have hpl := packS_len 1 a
  have hpn := packN_len 1 a (by omega)
  have hpp := packS_pos 1 a
  have hmc : manyC (packS 1 a).length ≤ 40 := by unfold manyC; omega
  obtain ⟨s, h1, h2, h3, h4⟩ := write_live (s := FS.fresh 80) (first := 0 * 40) (b := packS 1 a) okf (fresh_live 80) (by omega) (by omega)
  have e : saveN 80 (FS.fresh 80) a = (0, s) := by
    unfold saveN saveS
    rw [if_neg (by decide), if_neg (by decide), if_neg (by omega), hb0, if_neg (by decide), show nextP (FS.fresh 80) = 0 * 40 by unfold nextP; rw [hb0]; rfl]
    exact h1
  have ok : s.ok 80 := by
    have := saveN_ok a okf
    rw [e] at this
    exact this
  have hone : ∀ j, 40 ≤ j → j < 80 → s.page j = ones 64 := fun j hj hj2 => by
    rw [h3 j (by omega)]
    exact fresh_page 80 j hj2
  have hu : unpS (slotB s 0) = ⟨1, a, true⟩ := unp_take (n := 1) (slot_written (t := s) (i := 0) (show (packS 1 a).length ≤ 2560 by omega) h4) (by decide) (by decide) ha
  have hu1 : (unpS (slotB s 1)).ok = false := unp_head (fun j hj => by
    rw [slot_page s 1 j (by omega), hone _ (by omega) (by omega)]
    unfold ones
    rw [List.getElem?_replicate, if_pos (by omega)])
  refine ⟨s, e, h2, ok, hu, hone, ?_⟩
  unfold bestS
  rw [bestK_no (k := 1) hu1]
  have h := bestK_up (s := s) (k := 0) (by rw [hu]) (by rw [hu]; exact Nat.succ_pos _)
  rw [hu] at h
  exact h
/-- a second save, whether it is cut or not -/
theorem second_save {s : FS} {a b : List UInt8} (ok : s.ok 80) (hd : s.dead = false) (h0 : unpS (slotB s 0) = ⟨1, a, true⟩) (hone : ∀ j, 40 ≤ j → j < 80 → s.page j = ones 64) (hb : b.length ≤ 2500) (hbest : bestS s = (0, 1, a)) :
    (saveN 80 s b).2.ok 80 ∧ slotB (saveN 80 s b).2 0 = slotB s 0 ∧ unpS (slotB (saveN 80 s b).2 0) = ⟨1, a, true⟩ ∧ ((unpS (slotB (saveN 80 s b).2 1)).ok = true → (unpS (slotB (saveN 80 s b).2 1)).n = 2) ∧ ((saveN 80 s b).1 = 0 → unpS (slotB (saveN 80 s b).2 1) = ⟨2, b, true⟩) := by
  have hpl := packS_len 2 b
  have hpn := packN_len 2 b (by omega)
  have hpp := packS_pos 2 b
  have hmc : manyC (packS 2 b).length ≤ 40 := by unfold manyC; omega
  have e : saveN 80 s b = writeS 80 s 40 (packS 2 b) := by
    unfold saveN saveS
    rw [if_neg (by decide), if_neg (by rw [hd]; decide), if_neg (by omega), hbest, if_neg (show ¬ 1073741824 ≤ 1 by decide), show nextP s = 40 by unfold nextP; rw [hbest]; rfl]
    rfl
  have ok2 := saveN_ok b ok
  obtain ⟨c1, c2, c3⟩ := write_cut (s := s) (N := 80) (first := 40) (b := packS 2 b) ok hd (by omega) (by omega)
  rw [← e] at c1 c2 c3
  have hs : slotB (saveN 80 s b).2 0 = slotB s 0 := slot_same (fun j _ hj => c1 j (by omega) (by omega)) (slotB_len ok2 (by decide) 0 (by decide)) (slotB_len ok (by decide) 0 (by decide))
  refine ⟨ok2, hs, by rw [hs]; exact h0, slot_torn (c2 (hone 40 (by decide) (by decide))), fun h => ?_⟩
  exact unp_take (n := 2) (slot_written (t := (saveN 80 s b).2) (i := 1) (show (packS 2 b).length ≤ 2560 by omega) (c3 h)) (by decide) (by decide) hb
end Go.Proofs.Ytegdihpnefoolaa
