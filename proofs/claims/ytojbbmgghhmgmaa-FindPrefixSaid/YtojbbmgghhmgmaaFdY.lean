/- Prefixes set one by one. -/
import Derived.Test.YtojbbmgghhmgmaaFdP
open Go Go.RowKit
namespace Go.Proofs.Ytojbbmgghhmgmaa
def setP (P : ByteArray) (d : DL) : DL := ⟨d.name, d.kA, d.kn, d.kc, d.need, P, d.last⟩
def setD (t : TS) (A : Option Addr) (c : Nat) (D : List DL) : TS := ⟨t.name, t.ver, t.exp, t.LA, t.Ln, t.Lc, A, t.Dn, c, t.L, D⟩
/-- the first so many with that prefix -/
def pzD (P : ByteArray) (D : List DL) (i : Nat) : List DL := D.mapIdx fun j d => if j < i then setP P d else d
theorem pz_len (P : ByteArray) (D : List DL) (i : Nat) : (pzD P D i).length = D.length := by simp [pzD]
theorem pz_zero (P : ByteArray) (D : List DL) : pzD P D 0 = D := by
  apply List.ext_getElem?
  intro j
  simp [pzD, List.getElem?_mapIdx]
theorem pz_gt (P : ByteArray) (D : List DL) (i : Nat) : gt (pzD P D i) i = gt D i := by
  simp only [gt, pzD, List.getD_eq_getElem?_getD, List.getElem?_mapIdx]
  cases D[i]? <;> simp
theorem pz_step (P : ByteArray) (D : List DL) (i : Nat) (hi : i < D.length) : (pzD P D i).set i (setP P (gt D i)) = pzD P D (i + 1) := by
  apply List.ext_getElem?
  intro j
  rw [List.getElem?_set]
  simp only [pzD, List.getElem?_mapIdx, List.length_mapIdx]
  by_cases h : i = j
  · subst h
    simp [hi, gt, List.getD_eq_getElem?_getD]
  · rw [if_neg h]
    congr 1
    funext d
    by_cases h3 : j < i
    · rw [if_pos h3, if_pos (by omega)]
    · rw [if_neg h3, if_neg (by omega)]
theorem pz_all (P : ByteArray) (D : List DL) : ∀ d ∈ pzD P D D.length, d.pre = P := by
  intro d hd
  obtain ⟨i, hi, rfl⟩ := List.mem_mapIdx.1 hd
  rw [if_pos hi]
  rfl
theorem pz_name (P : ByteArray) (D : List DL) (i : Nat) (h : ∀ d ∈ D, d.name.size ≤ maxLen) : ∀ d ∈ pzD P D i, d.name.size ≤ maxLen := by
  intro d hd
  obtain ⟨j, hj, rfl⟩ := List.mem_mapIdx.1 hd
  have := h D[j] (List.getElem_mem _)
  split <;> exact this
theorem encSetP (P : ByteArray) (d : DL) : RowC.enc (setP P d) = (RowC.enc d).set 3 (.string P) := rfl
theorem encSetD (t : TS) (A : Option Addr) (c : Nat) (D : List DL) : RowC.enc (setD t A c D) = (RowC.enc t).set 4 (.slice A t.Dn c) := rfl
theorem pre_shortP (nm pre : ByteArray) (h : nm.size < pre.size) : hasPre nm pre = false := by
  unfold hasPre Lib.hasPrefix
  rw [Bool.eq_false_iff, ne_eq, List.isPrefixOf_iff_prefix]
  intro hp
  have := hp.length_le
  have e1 : nm.data.toList.length = nm.size := rfl
  have e2 : pre.data.toList.length = pre.size := rfl
  omega
theorem gt_set0 (ts : List TS) (t : TS) (h : 0 < ts.length) : gt (ts.set 0 t) 0 = t := by
  cases ts with
  | nil => simp at h
  | cons a l => rfl
/-- the list that is asked -/
def tsP (ts : List TS) (A : Option Addr) (c : Nat) (D : List DL) : List TS := ts.set 0 (setD (gt ts 0) A c D)
theorem tsP_t {w : World} {ts : List TS} (h : TSOk w ts) (h0 : 0 < ts.length) {A : Option Addr} {c : Nat} {D : List DL} (hD : Rd w A (cellsOf D)) (hl : D.length = (gt ts 0).Dn) : TSOk w (tsP ts A c D) := fun t ht => by
  rcases List.mem_or_eq_of_mem_set ht with ht | rfl
  · exact h t ht
  · obtain ⟨g1, g2, _, _⟩ := h _ (gt_mem ts 0 h0)
    exact ⟨g1, g2, hD, hl⟩
theorem tsP_wf {ts : List TS} (h : TSWf ts) (h0 : 0 < ts.length) {A : Option Addr} {c : Nat} {D : List DL} (hD : ∀ d ∈ D, d.name.size ≤ maxLen) : TSWf (tsP ts A c D) := fun t ht => by
  rcases List.mem_or_eq_of_mem_set ht with ht | rfl
  · exact h t ht
  · obtain ⟨g1, g2, g3, _⟩ := h _ (gt_mem ts 0 h0)
    exact ⟨g1, g2, g3, hD⟩
theorem find_tsP (ts : List TS) (nm P : ByteArray) (h0 : 0 < ts.length) (A : Option Addr) (c : Nat) (D : List DL) (hP : nm.size < P.size) (hD : ∀ d ∈ D, d.pre = P) :
    findS (tsP ts A c D) nm = (ownF (gt ts 0).L nm).map fun g => (g, (gt ts 0).name) := by
  have hg : gt (tsP ts A c D) 0 = setD (gt ts 0) A c D := gt_set0 ts _ h0
  have := find_nopre (tsP ts A c D) nm (by rw [tsP, List.length_set]; exact h0) (fun d hd => by
    rw [hg] at hd
    rw [hD d hd]
    exact pre_shortP nm P hP)
  rw [this, hg]
  rfl
end Go.Proofs.Ytojbbmgghhmgmaa
