/- Frames that wait, in mathematics. -/
import Derived.Test.YthoipeamdolfgaaHeap
import Derived.Test.YthoipeamdolfgaaRowE
open Go Go.RowKit
namespace Go.Proofs.Ythoipeamdolfgaa
open Hp
/-- a frame that waits, where its bytes lie, and when it came -/
structure BM where
  id : Int
  A : Option Addr
  n : Nat
  c : Nat
  d : List UInt8
  came : Int
abbrev bm0 : BM := ⟨0, none, 0, 0, [], 0⟩
def ahB (a b : BM) : Bool := decide (a.id < b.id) || (decide (a.id = b.id) && decide (a.came < b.came))
theorem ah_iff (a b : BM) : ahB a b = true ↔ a.id < b.id ∨ (a.id = b.id ∧ a.came < b.came) := by simp [ahB]
theorem ah_no (a b : BM) : ahB a b = false ↔ ¬ (a.id < b.id ∨ (a.id = b.id ∧ a.came < b.came)) := by
  rw [← ah_iff]
  cases ahB a b <;> simp
theorem ahO : Ord ahB := ⟨fun a b c h1 h2 => by rw [ah_no] at *; omega, fun a b h => by rw [ah_iff] at h; rw [ah_no]; omega⟩
/-- a frame of the document's: its ID, its bytes -/
abbrev Fr := Int × List UInt8
def BM.fr (m : BM) : Fr := (m.id, m.d)
def insF : List Fr → Fr → List Fr
  | [], x => [x]
  | y :: l, x => if y.1 ≤ x.1 then y :: insF l x else x :: y :: l
def insM : List BM → BM → List BM
  | [], x => [x]
  | y :: l, x => if y.id ≤ x.id then y :: insM l x else x :: y :: l
theorem insM_fr : ∀ l x, (insM l x).map BM.fr = insF (l.map BM.fr) x.fr
  | [], x => rfl
  | y :: l, x => by
    show (if y.id ≤ x.id then y :: insM l x else x :: y :: l).map BM.fr = if y.id ≤ x.id then y.fr :: insF (l.map BM.fr) x.fr else _
    split
    · rw [List.map_cons, insM_fr l x]
    · rfl
theorem insM_perm : ∀ l x, (insM l x).Perm (x :: l)
  | [], x => .refl _
  | y :: l, x => by
    unfold insM
    split
    · exact (List.Perm.cons y (insM_perm l x)).trans (List.Perm.swap x y l)
    · exact .refl _
theorem insM_srt : ∀ l x, Srt ahB l → (∀ y ∈ l, y.came < x.came) → Srt ahB (insM l x)
  | [], x, _, _ => List.pairwise_cons.2 ⟨fun _ h => (by cases h), List.Pairwise.nil⟩
  | y :: l, x, h, hc => by
    have h1 := List.pairwise_cons.1 h
    have hy := hc y List.mem_cons_self
    unfold insM
    split
    · rename_i hle
      refine List.pairwise_cons.2 ⟨fun u hu => ?_, insM_srt l x h1.2 (fun u hu => hc u (List.mem_cons_of_mem _ hu))⟩
      rcases List.mem_cons.1 ((insM_perm l x).mem_iff.1 hu) with rfl | hu
      · rw [ah_iff]; omega
      · exact h1.1 u hu
    · rename_i hle
      refine List.pairwise_cons.2 ⟨fun u hu => ?_, h⟩
      rcases List.mem_cons.1 hu with rfl | hu
      · rw [ah_iff]; omega
      · have h2 := h1.1 u hu
        rw [ah_iff] at h2
        rw [ah_iff]; omega
theorem insF_len : ∀ l x, (insF l x).length = l.length + 1
  | [], x => rfl
  | y :: l, x => by
    unfold insF
    split
    · rw [List.length_cons, insF_len l x, List.length_cons]
    · rfl
/-- the place that is found from behind -/
theorem insF_at : ∀ (l : List Fr) (x : Fr) (i : Nat), i ≤ l.length → (∀ k (h : k < l.length), k < i → l[k].1 ≤ x.1) → (∀ k (h : k < l.length), i ≤ k → x.1 < l[k].1) → insF l x = l.take i ++ x :: l.drop i
  | [], x, i, h, _, _ => by
    obtain rfl : i = 0 := by simpa using h
    rfl
  | y :: l, x, i, h, h1, h2 => by
    unfold insF
    cases i with
    | zero =>
      have := h2 0 (by simp) (Nat.le_refl _)
      rw [if_neg (by simp at this; omega)]
      rfl
    | succ i =>
      have := h1 0 (by simp) (by omega)
      rw [if_pos (by simpa using this), insF_at l x i (by simpa using h) (fun k hk hi => h1 (k + 1) (by simpa using hk) (by omega)) (fun k hk hi => h2 (k + 1) (by simpa using hk) (by omega))]
      rfl
/-- by rising IDs -/
def RisF (l : List Fr) : Prop := l.Pairwise fun a b => a.1 ≤ b.1
theorem srt_ris {s : List BM} (h : Srt ahB s) : RisF (s.map BM.fr) := by
  unfold RisF
  rw [List.pairwise_map]
  refine List.Pairwise.imp (fun {a b} h => ?_) h
  rw [ah_iff] at h
  show a.id ≤ b.id
  omega
theorem ris_get {l : List Fr} (h : RisF l) {i j : Nat} (hij : i ≤ j) (hj : j < l.length) : l[i].1 ≤ l[j].1 := by
  rcases Nat.lt_or_ge i j with h1 | h1
  · exact List.pairwise_iff_getElem.1 h i j (by omega) hj h1
  · obtain rfl : i = j := by omega
    exact Int.le_refl _
/-- what waits: a heap of frames that came before cm, in whose order the document's frames stand -/
structure Wt (q : List BM) (cm : Nat) (fr : List Fr) : Prop where
  heap : IsHeap bm0 ahB q q.length
  came : ∀ m ∈ q, m.came < cm
  srt : ∃ s, q.Perm s ∧ Srt ahB s ∧ s.map BM.fr = fr
theorem Wt.nil (cm : Nat) : Wt [] cm [] := ⟨fun k _ h => by simp at h, fun m h => (by cases h), [], .refl _, List.Pairwise.nil, rfl⟩
theorem Wt.len {q : List BM} {cm : Nat} {fr : List Fr} (h : Wt q cm fr) : q.length = fr.length := by
  obtain ⟨s, h1, _, h3⟩ := h.srt
  rw [← h3, List.length_map]
  exact h1.length_eq
theorem Wt.ris {q : List BM} {cm : Nat} {fr : List Fr} (h : Wt q cm fr) : RisF fr := by
  obtain ⟨s, _, h2, h3⟩ := h.srt
  rw [← h3]
  exact srt_ris h2
theorem Wt.push {q : List BM} {cm : Nat} {fr : List Fr} (h : Wt q cm fr) (x : BM) (hx : x.came = cm) : Wt (pushL bm0 ahB q x) (cm + 1) (insF fr x.fr) := by
  obtain ⟨s, h1, h2, h3⟩ := h.srt
  have hp := pushL_perm bm0 ahB q x
  refine ⟨by rw [pushL_len]; exact pushL_heap bm0 ahO q x h.heap, fun m hm => ?_, insM s x, ?_, insM_srt s x h2 (fun y hy => ?_), by rw [insM_fr, h3]⟩
  · rcases List.mem_cons.1 (hp.mem_iff.1 hm) with rfl | hm
    · omega
    · have := h.came m hm; omega
  · exact hp.trans ((List.Perm.cons x h1).trans (insM_perm s x).symm)
  · have := h.came y (h1.mem_iff.2 hy); omega
theorem Wt.pop {q : List BM} {cm : Nat} {fr : List Fr} (h : Wt q cm fr) {n : Nat} (hn : q.length = n + 1) : ∃ fr', fr = (gd bm0 q 0).fr :: fr' ∧ Wt ((popL bm0 ahB q n).take n) cm fr' := by
  obtain ⟨s, h1, h2, h3⟩ := h.srt
  have hh := h.heap
  rw [hn] at hh
  obtain ⟨t, ht, hp, hs⟩ := pop_first bm0 ahO hn hh h1 h2
  refine ⟨t.map BM.fr, by rw [← h3, ht]; rfl, ?_, fun m hm => ?_, t, hp, hs, rfl⟩
  · have hl : ((popL bm0 ahB q n).take n).length = n := by rw [List.length_take, popL_len]; omega
    rw [hl]
    exact popL_heap bm0 ahO q n hn hh
  · exact h.came m ((popL_perm bm0 ahB q n hn).mem_iff.1 (List.mem_cons_of_mem _ hm))
instance : RowC BM := ⟨3, fun m => [.int .i64 m.id, .slice m.A m.n m.c, .int .i64 m.came], fun _ => rfl, fun m u hu => by
    simp only [List.mem_cons, List.not_mem_nil, or_false] at hu
    rcases hu with rfl | rfl | rfl <;> rfl, bm0⟩
theorem gt_gd (l : List BM) (k : Nat) : gt l k = gd bm0 l k := rfl
end Go.Proofs.Ythoipeamdolfgaa
