/- BkJ -/
import Derived.Test.YtegdihpnefoolaaTjBkI
import Derived.Test.YtegdihpnefoolaaTjSxC
open Go Go.RowKit
namespace Go.Proofs.Ytegdihpnefoolaa
/-- a save leaves what lies behind both slots -/
theorem save_out {N : Nat} {s : FS} (b : List UInt8) (ok : s.ok N) : ∀ j, 80 ≤ j → j < N → (saveN N s b).2.page j = s.page j := by
  intro j hj hjN
  unfold saveN
  split
  · rfl
  · rename_i h80
    unfold saveS
    split
    · rfl
    · rename_i hd
      split
      · rfl
      · rename_i hl
        split
        · rfl
        · have hpl := packS_len (((bestS s).2.1 + 1 : Nat) : Int) b
          have hpn := packN_len (((bestS s).2.1 + 1 : Nat) : Int) b (by omega)
          have hpp := packS_pos (((bestS s).2.1 + 1 : Nat) : Int) b
          have hnx := nextP_le s
          have hmc : manyC (packS (((bestS s).2.1 + 1 : Nat) : Int) b).length ≤ 40 := by unfold manyC; omega
          exact (write_cut (s := s) (N := N) (first := nextP s) ok (by simpa using hd) (by omega) (by omega)).1 j hjN (by omega)
section
variable {N : Nat} {s : FS} {first : Nat}
theorem progA_cut {b : List UInt8} {r0 : Nat × FS} (ok : r0.2.ok N) (hm : first + manyC b.length ≤ N) (h0 : r0.1 = 0 ∧ r0.2.dead = false ∧ ∀ x, x < manyC b.length → r0.2.page (first + x) = ones 64) : ∀ k, k ≤ manyC b.length → (∀ j, j < N → ¬ (first ≤ j ∧ j < first + manyC b.length) → (progA N r0 first b k).2.page j = r0.2.page j) ∧
    (((progA N r0 first b k).1 = 0 ∧ (progA N r0 first b k).2.dead = false ∧ ∀ x, x < manyC b.length → (progA N r0 first b k).2.page (first + x) = if x < k then fillP b x else ones 64) ∨ (progA N r0 first b k).1 = 11)
  | 0, _ => ⟨fun _ _ _ => rfl, .inl ⟨h0.1, h0.2.1, fun x hx => by rw [if_neg (by omega)]; exact h0.2.2 x hx⟩⟩
  | k + 1, hk => by
    obtain ⟨h1, h3⟩ := progA_cut (b := b) ok hm h0 k (by omega)
    have okt := progA_ok first b ok k
    generalize ht : progA N r0 first b k = r at *
    rcases h3 with ⟨g1, g2, g3⟩ | g1
    · have e : progA N r0 first b (k + 1) = r.2.change N ((first + k : Nat) : Int) (pieceB b k).length (prD (pieceB b k)) := by
        rw [progA, ht, if_pos g1]
      obtain ⟨c1, c2⟩ := change_at (i := first + k) (m := (pieceB b k).length) okt g2 (by omega) (pieceB_le b k) (deals_pr (pieceB b k) N)
      have hold : r.2.page (first + k) = ones 64 := by
        rw [g3 k (by omega), if_neg (by omega)]
      rw [e]
      refine ⟨fun j hj hn => ?_, ?_⟩
      · rw [c2 j hj (by omega), h1 j hj hn]
      · rcases c1 with ⟨c0, c3, c⟩ | ⟨c0, _⟩
        · refine .inl ⟨c0, c3, fun x hx => ?_⟩
          by_cases hxq : x = k
          · rw [if_pos (by omega)]
            subst hxq
            rw [c, hold]
            unfold prF fillP prog
            rw [List.take_length]
          · rw [c2 (first + x) (by omega) (by omega), g3 x hx]
            by_cases h7 : x < k
            · rw [if_pos h7, if_pos (by omega)]
            · rw [if_neg h7, if_neg (by omega)]
        · exact .inr c0
    · have e : progA N r0 first b (k + 1) = r := by
        rw [progA, ht, if_neg (by rw [g1]; decide)]
      rw [e]
      exact ⟨h1, .inr g1⟩
/-- an image laid, whether it is cut or not -/
theorem lay_cut {b : List UInt8} (ok : s.ok N) (hv : s.dead = false) (hm : first + manyC b.length ≤ N) :
    (∀ j, j < N → ¬ (first ≤ j ∧ j < first + manyC b.length) → (layS N s first b).2.page j = s.page j) ∧
    ((layS N s first b).1 = 0 → (layS N s first b).2.dead = false ∧ ∀ x, x < manyC b.length → (layS N s first b).2.page (first + x) = fillP b x) := by
  obtain ⟨h1, h2, h3⟩ := erase_cut (s := s) (first := first) ok hv (manyC b.length) hm
  have okt := eraseK_ok first ok (manyC b.length)
  unfold layS
  generalize ht : eraseK N s first (manyC b.length) = r at *
  rcases h3 with g | g1
  · obtain ⟨k1, k3⟩ := progA_cut (b := b) okt hm g (manyC b.length) (Nat.le_refl _)
    refine ⟨fun j hj hn => by rw [k1 j hj hn, h1 j hj hn], fun h => ?_⟩
    rcases k3 with ⟨_, k2, k3⟩ | k3
    · exact ⟨k2, fun x hx => by rw [k3 x hx, if_pos hx]⟩
    · rw [k3] at h
      cases h
  · have e := progA_stop (first := first) (b := b) (k := 0) (r0 := r) (N := N) (by show r.1 ≠ 0; rw [g1]; decide) (manyC b.length)
    rw [Nat.zero_add] at e
    have e' : progA N r first b (manyC b.length) = r := e
    rw [e']
    exact ⟨h1, fun h => by rw [g1] at h; cases h⟩
/-- nothing burns where no fuse is laid -/
theorem eraseK_live (ok : s.ok N) (hv : live s) : ∀ k, first + k ≤ N → (eraseK N s first k).1 = 0 ∧ live (eraseK N s first k).2
  | 0, _ => ⟨rfl, hv⟩
  | k + 1, hk => by
    obtain ⟨h1, h2⟩ := eraseK_live ok hv k (by omega)
    have okt := eraseK_ok first ok k
    rw [eraseK, if_pos h1, FS.change_plain h2.1 h2.2 (by omega) (by decide)]
    exact ⟨rfl, h2⟩
theorem progA_live {b : List UInt8} {r0 : Nat × FS} (h0 : r0.1 = 0) (hv : live r0.2) (hm : first + manyC b.length ≤ N) : ∀ k, k ≤ manyC b.length → (progA N r0 first b k).1 = 0 ∧ live (progA N r0 first b k).2
  | 0, _ => ⟨h0, hv⟩
  | k + 1, hk => by
    obtain ⟨h1, h2⟩ := progA_live (b := b) h0 hv hm k (by omega)
    rw [progA, if_pos h1, FS.change_plain h2.1 h2.2 (by omega) (pieceB_le b k)]
    exact ⟨rfl, h2⟩
theorem lay_live {b : List UInt8} (ok : s.ok N) (hv : live s) (hm : first + manyC b.length ≤ N) : (layS N s first b).1 = 0 ∧ live (layS N s first b).2 := by
  obtain ⟨h1, h2⟩ := eraseK_live (first := first) ok hv (manyC b.length) hm
  exact progA_live h1 h2 hm (manyC b.length) (Nat.le_refl _)
end
theorem best_same {s t : FS} {N : Nat} (oks : s.ok N) (okt : t.ok N) (hN : 80 ≤ N) (h : ∀ j, j < 80 → t.page j = s.page j) : bestS t = bestS s := by
  have hs : ∀ i, i < 2 → slotB t i = slotB s i := fun i hi => slot_same (fun j _ hj => h j (by omega)) (slotB_len okt hN i hi) (slotB_len oks hN i hi)
  have hk : ∀ k, k ≤ 2 → bestK t k = bestK s k := by
    intro k
    induction k with
    | zero => intro _; rfl
    | succ k ih =>
      intro hk
      rw [bestK, bestK, hs k (by omega), ih (by omega)]
  exact hk 2 (Nat.le_refl _)
theorem bank_page (s : FS) (i j : Nat) (h : j < 512) : (bankB s i)[j]? = (s.page (80 + i * 8 + j / 64))[j % 64]? := by
  rw [page_get _ _ _ (Nat.mod_lt _ (by decide))]
  unfold bankB
  rw [List.getElem?_take, if_pos h, List.getElem?_drop]
  congr 1
  omega
theorem bank_written {t : FS} {i : Nat} {b : List UInt8} (hb : b.length ≤ 512) (h : ∀ x, x < manyC b.length → t.page (80 + i * 8 + x) = fillP b x) : (bankB t i).take b.length = b := by
  apply List.ext_getElem?
  intro j
  rw [List.getElem?_take]
  by_cases hj : j < b.length
  · have hx : j / 64 < manyC b.length := by unfold manyC; omega
    rw [if_pos hj, bank_page t i j (by omega), h _ hx, fillP_get (by omega) (Nat.mod_lt _ (by decide))]
    congr 1
    omega
  · rw [if_neg hj, List.getElem?_eq_none (by omega)]
/-- what boots, told by the record and its bank -/
theorem boot_told {s : FS} {st : BSt} {img : List UInt8} {n : Nat} (hb : (bestS s).2 = (n, st.enc)) (hn : n ≠ 0) (h1 : st.bank < 2) (h2 : st.size ≤ 512) (h3 : st.cnt ≤ 1073741824) (h4 : st.name.length ≤ 1000000) (h5 : st.mind.length ≤ 1000000) (hi : (bankB s st.bank).take st.size = img) (hs : sha img = st.sum.l) : bootS 96 s = (st, img, 0) := by
  obtain ⟨d1, d2⟩ := dec_enc h1 h2 h3 h4 h5
  have e1 : (bestS s).2.1 = n := by rw [hb]
  have e2 : (bestS s).2.2 = st.enc := by rw [hb]
  unfold bootS
  rw [if_neg (by decide), e1, if_neg hn, e2, if_pos d1, d2, hi, if_pos hs]
theorem boot_fresh : bootS 96 (FS.fresh 96) = (bkZero, [], 9) := by
  unfold bootS
  rw [if_neg (by decide), fresh_best 96 (by decide), if_pos rfl]
/-- a flash that lives: so many saves, and what boots -/
structure BankS (s : FS) (n : Nat) (B : BSt × List UInt8 × Nat) : Prop where
  ok : s.ok 96
  lv : live s
  num : (bestS s).2.1 = n
  boot : bootS 96 s = B
theorem bank_fresh : BankS (FS.fresh 96) 0 (bkZero, [], 9) := ⟨FS.fresh_ok (by decide), fresh_live 96, by rw [fresh_best 96 (by decide)], boot_fresh⟩
theorem install_live {s : FS} {n : Nat} {B : BSt × List UInt8 × Nat} (h : BankS s n B) (hn : n < 1073741824) {nm img mind : List UInt8} {cnt : Int} (hB : B.2.2 = 9 ∨ (B.2.2 = 0 ∧ (B.1.cnt : Int) ≤ cnt)) (h0 : 0 ≤ cnt) (h1 : cnt ≤ 1073741824) (hi : img.length ≤ 512) (hnm : nm.length ≤ 12) (hmd : mind.length ≤ 2000) :
    ∃ t, instS 96 s nm img cnt mind = (0, t) ∧ BankS t (n + 1) (⟨if B.2.2 = 0 then 1 - B.1.bank else 0, img.length, ⟨sha img, sha_len _⟩, cnt.toNat, nm, mind⟩, img, 0) := by
  obtain ⟨ok, lv, num, boot⟩ := h
  have hnb : nextBank 96 s < 2 := by
    unfold nextBank
    split <;> omega
  obtain ⟨nb, hnbe⟩ : ∃ nb, nb = nextBank 96 s := ⟨_, rfl⟩
  obtain ⟨st, hst⟩ : ∃ st : BSt, st = ⟨nb, img.length, ⟨sha img, sha_len _⟩, cnt.toNat, nm, mind⟩ := ⟨_, rfl⟩
  have hns : nextSt 96 s nm img cnt mind = st := by rw [nextSt, hst, ← hnbe]
  have hmc : manyC img.length ≤ 8 := by unfold manyC; omega
  obtain ⟨l1, l2⟩ := lay_live (N := 96) (s := s) (first := 80 + nb * 8) (b := img) ok lv (by omega)
  obtain ⟨c1, c2⟩ := lay_cut (N := 96) (s := s) (first := 80 + nb * 8) (b := img) ok lv.1 (by omega)
  obtain ⟨_, c3⟩ := c2 l1
  have okL := layS_ok (80 + nb * 8) img ok
  generalize hL : layS 96 s (80 + nb * 8) img = L at *
  have hbL : bestS L.2 = bestS s := best_same ok okL (by decide) (fun j hj => c1 j (by omega) (by omega))
  have hel : st.enc.length ≤ 2500 := by
    have h3 := enc_size (s := st) (by rw [hst]; show nm.length ≤ 1000000; omega) (by rw [hst]; show mind.length ≤ 1000000; omega)
    have h4 : st.name.length = nm.length := by rw [hst]
    have h5 : st.mind.length = mind.length := by rw [hst]
    omega
  obtain ⟨t, e1, e2, e3⟩ := save_live (N := 96) (b := st.enc) okL (by decide) l2 hel (by rw [hbL, num]; exact hn)
  have e1' : saveN 96 L.2 st.enc = (0, t) := by unfold saveN; rw [if_neg (by decide)]; exact e1
  have okt : t.ok 96 := by
    have := saveN_ok st.enc okL
    rw [e1'] at this
    exact this
  have hbt := e3 okt
  rw [hbL, num] at hbt
  have hpt : ∀ j, 80 ≤ j → j < 96 → t.page j = L.2.page j := fun j h1 h2 => by
    have := save_out st.enc okL j h1 h2
    rw [e1'] at this
    exact this
  refine ⟨t, ?_, okt, e2, by rw [hbt], ?_⟩
  · unfold instS
    rw [if_neg (by decide), if_neg (by rw [lv.1]; decide), if_neg (by omega), if_neg (by omega), boot, if_neg (by omega), if_neg (by omega), ← hnbe, hL, if_neg (by rw [l1]; decide), hns, e1']
  · have hst2 : (⟨if B.2.2 = 0 then 1 - B.1.bank else 0, img.length, ⟨sha img, sha_len _⟩, cnt.toNat, nm, mind⟩ : BSt) = st := by
      rw [hst, hnbe, nextBank, boot]
    rw [hst2]
    refine boot_told hbt (Nat.succ_ne_zero n) (by rw [hst]; show nb < 2; omega) (by rw [hst]; exact hi) (by rw [hst]; show cnt.toNat ≤ _; omega) (by rw [hst]; show nm.length ≤ _; omega) (by rw [hst]; show mind.length ≤ _; omega) ?_ (by rw [hst])
    rw [hst]
    show (bankB t nb).take img.length = img
    exact bank_written hi (fun x hx => by rw [hpt _ (by omega) (by omega)]; exact c3 x hx)
end Go.Proofs.Ytegdihpnefoolaa
