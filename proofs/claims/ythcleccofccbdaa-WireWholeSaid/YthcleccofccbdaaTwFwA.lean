/- FwA -/
import Derived.Test.YthcleccofccbdaaTwTgU
open Go Go.RowKit
namespace Go.Proofs.Ythcleccofccbdaa
theorem numI_fwd {v : Int} (h0 : 0 ≤ v) (h : v ≤ 4611686018427387904) (r : List UInt8) : (⟨encAll [v] ++ r, false⟩ : RS).num = (v.toNat, ⟨r, false⟩) := by
  have hc : clampN v = v.toNat := by unfold clampN; omega
  rw [encAll_one, hc, num_enc _ _ (by omega)]
theorem row_fwd (b r : List UInt8) (h : b.length ≤ 4611686018427387904) : (⟨encRow b ++ r, false⟩ : RS).row = (b, ⟨r, false⟩) := by
  unfold RS.row encRow
  rw [List.append_assoc, num_enc _ _ h]
  unfold RS.raw
  rw [if_neg (by
    rintro (h1 | h1 | h1)
    · cases h1
    · exact absurd h1 (by simp)
    · have h2 : ((b ++ r).length : Int) < (b.length : Int) := h1
      rw [List.length_append] at h2
      omega)]
  show ((b ++ r).take (b.length : Int).toNat, (⟨(b ++ r).drop (b.length : Int).toNat, false⟩ : RS)) = _
  rw [Int.toNat_natCast, List.take_left' rfl, List.drop_left' rfl]
theorem raw_fwd (h : H32) (r : List UInt8) : (⟨h.l ++ r, false⟩ : RS).raw 32 = (h.l, ⟨r, false⟩) := by
  unfold RS.raw
  rw [if_neg (by
    rintro (h1 | h1 | h1)
    · cases h1
    · omega
    · rw [List.length_append, h.len] at h1
      omega)]
  show ((h.l ++ r).take 32, (⟨(h.l ++ r).drop 32, false⟩ : RS)) = _
  rw [List.take_left' h.len, List.drop_left' h.len]
theorem hsh_fwd (h : H32) (r : List UInt8) : (⟨h.l ++ r, false⟩ : RS).hsh = h := by
  unfold RS.hsh
  rw [raw_fwd]
  exact H32.ext' (by rw [dif_pos (show (h.l, (⟨r, false⟩ : RS)).1.length = 32 from h.len)])
theorem hnx_fwd (h : H32) (r : List UInt8) : (⟨h.l ++ r, false⟩ : RS).hnx = ⟨r, false⟩ := by
  unfold RS.hnx
  rw [raw_fwd]
section
variable {α : Type} {tk : RS → α × RS} {ef : α → List UInt8}
theorem tkS_fwd (L : List α) (h : ∀ x ∈ L, ∀ r, tk ⟨ef x ++ r, false⟩ = (x, ⟨r, false⟩)) (r : List UInt8) : ∀ k, k ≤ L.length → tkS tk ⟨L.flatMap ef ++ r, false⟩ k = ⟨(L.drop k).flatMap ef ++ r, false⟩ ∧ tkL tk ⟨L.flatMap ef ++ r, false⟩ k = L.take k
  | 0, _ => ⟨rfl, rfl⟩
  | k + 1, hk => by
    obtain ⟨h1, h2⟩ := tkS_fwd L h r k (by omega)
    have hd : L.drop k = L[k] :: L.drop (k + 1) := List.drop_eq_getElem_cons (by omega)
    have e : tk ⟨(L.drop k).flatMap ef ++ r, false⟩ = (L[k], ⟨(L.drop (k + 1)).flatMap ef ++ r, false⟩) := by
      rw [hd, List.flatMap_cons, List.append_assoc]
      exact h _ (List.getElem_mem _) _
    constructor
    · rw [tkS, h1, e]
    · rw [tkL, h2, h1, e, List.take_append_getElem (by omega)]
theorem lst_fwd (most : Nat) (L : List α) (hm : L.length ≤ most) (h9 : L.length ≤ 4611686018427387904) (h : ∀ x ∈ L, ∀ r, tk ⟨ef x ++ r, false⟩ = (x, ⟨r, false⟩)) (r : List UInt8) :
    lstL tk most ⟨encAll [(L.length : Int)] ++ (L.flatMap ef ++ r), false⟩ = L ∧ lstS tk most ⟨encAll [(L.length : Int)] ++ (L.flatMap ef ++ r), false⟩ = ⟨r, false⟩ := by
  have hn := numI_fwd (v := (L.length : Int)) (by omega) (by omega) (L.flatMap ef ++ r)
  obtain ⟨h1, h2⟩ := tkS_fwd L h r L.length (Nat.le_refl _)
  unfold lstL lstS
  rw [hn]
  simp only [Int.toNat_natCast]
  rw [if_neg (by omega), if_neg (by omega), h1, h2]
  simp
end
theorem hS_fwd (l : List H32) (r : List UInt8) : ∀ k, k ≤ l.length → hS ⟨flatH l ++ r, false⟩ k = ⟨flatH (l.drop k) ++ r, false⟩ ∧ hN ⟨flatH l ++ r, false⟩ k = l.take k
  | 0, _ => ⟨rfl, rfl⟩
  | k + 1, hk => by
    obtain ⟨h1, h2⟩ := hS_fwd l r k (by omega)
    have hd : l.drop k = l[k] :: l.drop (k + 1) := List.drop_eq_getElem_cons (by omega)
    have e : flatH (l.drop k) ++ r = l[k].l ++ (flatH (l.drop (k + 1)) ++ r) := by
      rw [hd, ← List.append_assoc]
      rfl
    constructor
    · rw [hS, h1, e, raw_fwd]
    · rw [hN, h2, h1, e, hsh_fwd, List.take_append_getElem (by omega)]
theorem key_fwd (l : List H32) (need : Int) (hl : l.length ≤ 4) (h0 : 0 ≤ need) (h9 : need ≤ 4611686018427387904) (r : List UInt8) : kL ⟨keyB l need ++ r, false⟩ = l ∧ kD ⟨keyB l need ++ r, false⟩ = need.toNat ∧ kR ⟨keyB l need ++ r, false⟩ = ⟨r, false⟩ := by
  have e : keyB l need ++ r = encAll [(l.length : Int)] ++ (flatH l ++ (encAll [need] ++ r)) := by simp [keyB]
  have hn := numI_fwd (v := (l.length : Int)) (by omega) (by omega) (flatH l ++ (encAll [need] ++ r))
  obtain ⟨h1, h2⟩ := hS_fwd l (encAll [need] ++ r) l.length (Nat.le_refl _)
  have hM : kM ⟨keyB l need ++ r, false⟩ = ⟨encAll [need] ++ r, false⟩ := by
    unfold kM
    rw [e, hn]
    simp only [Int.toNat_natCast]
    rw [if_neg (by omega), h1]
    simp [flatH]
  refine ⟨?_, ?_, ?_⟩
  · unfold kL
    rw [e, hn]
    simp only [Int.toNat_natCast]
    rw [if_neg (by omega), h2]
    simp
  · unfold kD
    rw [hM, numI_fwd h0 h9]
  · unfold kR
    rw [hM, numI_fwd h0 h9]
theorem isB_in {l : List H32} {need : Int} (h : isB l need = true) : l.length ≤ 4 ∧ 1 ≤ need ∧ need ≤ l.length := by
  unfold isB at h
  simp only [Bool.and_eq_true, decide_eq_true_eq] at h
  exact ⟨h.1.1.1, h.1.1.2, h.1.2⟩
theorem numB_in {v : Int} (h : numB v = true) : 0 ≤ v ∧ v ≤ 1073741824 := by
  unfold numB at h
  simp only [Bool.and_eq_true, decide_eq_true_eq] at h
  exact h
theorem verB_in {v : Int} (h : verB v = true) : 1 ≤ v ∧ v ≤ 1073741824 := by
  unfold verB at h
  simp only [Bool.and_eq_true, decide_eq_true_eq] at h
  exact h
theorem tgOk_in {t : TargetR} (h : tgOk t = true) : t.l.length ≤ 12 ∧ (0 ≤ t.size ∧ t.size ≤ 512) ∧ t.hw.length ≤ 12 ∧ (0 ≤ t.ctr ∧ t.ctr ≤ 1073741824) ∧ t.ecu.length ≤ 12 := by
  unfold tgOk at h
  simp only [Bool.and_eq_true, decide_eq_true_eq] at h
  exact ⟨nameL_le h.1.1.1.1.1, ⟨h.1.1.1.1.2, h.1.1.1.2⟩, nameL_le h.1.1.2, numB_in h.1.2, nameE_le h.2⟩
theorem tg_fwd {t : TargetR} (h : tgOk t = true) (r : List UInt8) : tgTk ⟨tgE t ++ r, false⟩ = (t, ⟨r, false⟩) := by
  obtain ⟨h1, ⟨h2, h3⟩, h4, ⟨h5, h6⟩, h7⟩ := tgOk_in h
  have e : tgE t ++ r = encRow t.l ++ (encAll [t.size] ++ (t.sum.l ++ (encRow t.hw ++ (encAll [t.ctr] ++ (encRow t.ecu ++ r))))) := by simp [tgE]
  have s1 := row_fwd t.l (encAll [t.size] ++ (t.sum.l ++ (encRow t.hw ++ (encAll [t.ctr] ++ (encRow t.ecu ++ r))))) (by omega)
  have s2 := numI_fwd (v := t.size) (by omega) (by omega) (t.sum.l ++ (encRow t.hw ++ (encAll [t.ctr] ++ (encRow t.ecu ++ r))))
  have s3 := hsh_fwd t.sum (encRow t.hw ++ (encAll [t.ctr] ++ (encRow t.ecu ++ r)))
  have s4 := hnx_fwd t.sum (encRow t.hw ++ (encAll [t.ctr] ++ (encRow t.ecu ++ r)))
  have s5 := row_fwd t.hw (encAll [t.ctr] ++ (encRow t.ecu ++ r)) (by omega)
  have s6 := numI_fwd (v := t.ctr) (by omega) (by omega) (encRow t.ecu ++ r)
  have s7 := row_fwd t.ecu r (by omega)
  unfold tgTk
  rw [e, s1, s2, s3, s4, s5, s6, s7]
  cases t
  simp only [Int.toNat_of_nonneg h2, Int.toNat_of_nonneg h5] at *
theorem dlOkM_in {x : DlM} (h : dlOkM x = true) : x.1.length ≤ 12 ∧ isB x.2.1.1 x.2.1.2 = true ∧ x.2.2.1.length ≤ 12 := by
  unfold dlOkM at h
  simp only [Bool.and_eq_true] at h
  exact ⟨nameL_le h.1.1, h.1.2, nameE_le h.2⟩
theorem flag_fwd (b : Bool) (r : List UInt8) : fgV ⟨flagE b ++ r, false⟩ = b ∧ fgS ⟨flagE b ++ r, false⟩ = ⟨r, false⟩ := by
  have hn := numI_fwd (v := if b then 1 else 0) (by cases b <;> decide) (by cases b <;> decide) r
  unfold fgV fgS flagE
  rw [hn]
  cases b
  · exact ⟨rfl, rfl⟩
  · exact ⟨rfl, rfl⟩
theorem dl_fwd {x : DlM} (h : dlOkM x = true) (r : List UInt8) : dlTk ⟨dlME x ++ r, false⟩ = (x, ⟨r, false⟩) := by
  obtain ⟨h1, h2, h3⟩ := dlOkM_in h
  obtain ⟨h4, h5, h6⟩ := isB_in h2
  obtain ⟨l, ⟨ks, need⟩, pre, b⟩ := x
  dsimp only at h1 h2 h3 h4 h5 h6
  have e : dlME (l, (ks, need), pre, b) ++ r = encRow l ++ (keyB ks need ++ (encRow pre ++ (flagE b ++ r))) := by simp [dlME]
  have s1 := row_fwd l (keyB ks need ++ (encRow pre ++ (flagE b ++ r))) (by omega)
  obtain ⟨s2, s3, s4⟩ := key_fwd ks need h4 (by omega) (by omega) (encRow pre ++ (flagE b ++ r))
  have s5 := row_fwd pre (flagE b ++ r) (by omega)
  obtain ⟨s6, s7⟩ := flag_fwd b r
  unfold dlTk
  rw [e, s1, s2, s3, s4, s5, s6, s7]
  have hz : (need.toNat : Int) = need := Int.toNat_of_nonneg (by omega)
  simp only [hz]
end Go.Proofs.Ythcleccofccbdaa
