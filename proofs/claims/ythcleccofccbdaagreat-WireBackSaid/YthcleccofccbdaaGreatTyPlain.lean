/- Opens, RoO, RoL, SnO, WyO, TgO, FwO, Plain -/
import Derived.Test.YthcleccofccbdaaGreatTyBase
import Derived.ProofKit
import Derived.OpenShut
import Derived.ChangeSame
import Derived.Carry
import Derived.Deep.DeepHandedRow
import Derived.Deep.Slices
import Derived.Lib.LaidTab
import Derived.Deep.Matrix
import Derived.Deep.Grids
import Derived.Test.YthcleccofccbdaaGreatTyRoR
import Derived.Test.YthcleccofccbdaaGreatTyRoJ
import Derived.Test.YthcleccofccbdaaGreatTyFwM
import Derived.Test.YthcleccofccbdaaGreatTyWsB
import Derived.Test.YthcleccofccbdaaGreatTySnH
import Derived.Test.YthcleccofccbdaaGreatTyWzC
import Derived.Test.YthcleccofccbdaaGreatTyTgA
import Derived.Test.YthcleccofccbdaaGreatTyTgE
import Derived.Test.YthcleccofccbdaaGreatRows
section
section
open Go Go.RowKit Go.WideShapes Go.ChangeShapes
namespace Go.Proofs.YthcleccofccbdaaGreat
section
variable {H : Type} {enc : TypeId × Value → H} {P : Program}
theorem post_of_below {f : Func} {s : ChangeSpec} {apart fresh handsOn again : Bool} {W W' : World} {args : Array Value} {v : Value} {ds gs : List (DataW H)} {before pa pv : List MemPlace}
    (hW : DataW.Whole enc P f.params.toList s.vars apart W args.toList ds gs before)
    (hres : ∀ (b : Nat) (sp : Nat → Bool) (hd : Bool), DataW.TrodAll enc P W' b sp hd f.resultTypes.toList (v.resultList f.resultTypes.size) (s.fn H (ds ++ gs)).results [])
    (hargs : ∀ sp : Nat → Bool, (∀ p ∈ before, sp p.block = true) → DataW.TrodAll enc P W' 0 sp true f.params.toList args.toList (s.fn H (ds ++ gs)).args pa)
    (hvars : ∀ sp : Nat → Bool, (∀ p ∈ before, sp p.block = true) → DataW.TrodVars enc P W' sp s.vars (s.fn H (ds ++ gs)).vars pv)
    (hps : before = pa ++ pv) (hb : Below W.heap.size W W')
    (hok : ∀ (j : Nat) (t : TypeId) (r : Value), f.resultTypes[j]? = some t → (v.resultList f.resultTypes.size)[j]? = some r → Value.okWide P W' .any 0 t r) :
    s.post enc P f apart fresh handsOn again W args v W' := by
  have hlt : ∀ p ∈ before, p.block < W.heap.size := fun p hp => hW.lt p hp
  have hold : ∀ p ∈ before, (fun b => decide (b < W.heap.size)) p.block = true := fun p hp => by simpa using hlt p hp
  refine ⟨ds, gs, before, [], pa, pv, hW, hres _ _ _, hargs _ hold, hvars _ hold, World.keptBut_mono (fun p hp => ⟨hp, ?_⟩) (hb.frame (· ∈ before)), fun _ => ?_⟩
  · rw [hps, List.mem_append] at hp
    exact Or.inr hp
  · obtain ⟨_, _, _, _, _, hz, hn⟩ := hW
    refine ⟨hok, _, _, ([] ++ pa) ++ pv, ⟨[] ++ pa, pv, trodAll_append (hargs _ (fun _ _ => rfl)) (hres _ _ _), hvars _ (fun _ _ => rfl), rfl, ?_, ?_⟩, ?_⟩
    · intro b off hp
      have hin : MemPlace.cell b off ∈ before := by rw [hps]; simpa using hp
      rw [hb.frozen (hlt _ hin)]
      exact hz b off hin
    · intro ha
      have := hn ha
      rw [hps] at this
      simpa using this
    · intro p hp _
      rw [hps]
      simpa using hp
theorem trodAll_stays (hl : laidOutB P = true) {W W' : World} {sp : Nat → Bool} : ∀ (ts : List TypeId) (vs : List Value) (ds : List (DataW H)) (ps : List MemPlace), (∀ t ∈ ts, P.readableRec t = true ∧ t < P.types.size) →
    DataW.TrodAll enc P W 0 (fun _ => true) true ts vs ds ps → (∀ p ∈ ps, W.sameAt W' p) → (∀ p ∈ ps, sp p.block = true) → DataW.TrodAll enc P W' 0 sp true ts vs ds ps
  | [], vs, ds, ps, _, h, _, _ => by
    obtain ⟨rfl, rfl, rfl⟩ := trodAll_nil h
    exact trodAll_mk0
  | t :: ts, vs, ds, ps, hr, h, hsame, hs => by
    obtain ⟨v, vs', d, ds', p, q, rfl, rfl, rfl, hd, hrest⟩ := trodAll_cons h
    refine trodAll_cons_mk (WideElems.Trod_stays hl (hr t (by simp)).1 (hr t (by simp)).2 hd (fun x hx => hsame x (by simp [hx])) (fun x hx => hs x (by simp [hx]))) ?_
    exact trodAll_stays hl ts vs' ds' q (fun t ht => hr t (by simp [ht])) hrest (fun x hx => hsame x (by simp [hx])) (fun x hx => hs x (by simp [hx]))
theorem post_law {f : Func} {s : ChangeSpec} {apart fresh handsOn again : Bool} {W W' : World} {args : Array Value} {ds gs : List (DataW H)} {before : List MemPlace}
    (hl : laidOutB P = true) (hread' : f.params.toList.all (fun t => P.readableRec t && decide (t < P.types.size)) = true) (hv : s.vars = [])
    (hW : DataW.Whole enc P f.params.toList s.vars apart W args.toList ds gs before)
    (hfn : s.fn H ds = { results := [.lit (.bool true)], args := ds }) {b : TypeId} (hr : f.resultTypes = #[b]) (hb : P.underlying b = some .bool)
    (hbelow : Below W.heap.size W W') : s.post enc P f apart fresh handsOn again W args (.bool true) W' := by
  have hread : ∀ t ∈ f.params.toList, P.readableRec t = true ∧ t < P.types.size := fun t ht => by
    have := List.all_eq_true.1 hread' t ht
    simpa using this
  have hlt : ∀ p ∈ before, p.block < W.heap.size := fun p hp => hW.lt p hp
  have hW' := hW
  obtain ⟨p, q, hA, hV, rfl, _, _⟩ := hW
  have hgs : gs = [] ∧ q = [] := by
    rw [hv] at hV
    exact trodVars_none hV
  obtain ⟨rfl, rfl⟩ := hgs
  rw [List.append_nil] at hW' hlt
  refine post_of_below (pa := p) (pv := []) hW' ?_ ?_ ?_ (by simp) hbelow ?_
  · intro b' sp hd
    rw [List.append_nil, hfn, hr]
    exact trodAll_cons_mk (shut_bool hb true) trodAll_mk0
  · intro sp hsp
    rw [List.append_nil, hfn]
    exact trodAll_stays hl _ _ _ _ hread hA (fun x hx => hbelow.same (hlt x hx)) hsp
  · intro sp hsp
    rw [hv]
    rw [List.append_nil, hfn]
    exact rfl
  · exact ok_one hr rfl (okWide_bool_mk hb true)
end
end Go.Proofs.YthcleccofccbdaaGreat
end
section
open Go Go.RowKit Go.WideShapes Go.ChangeShapes Go.Deep
namespace Go.Proofs.YthcleccofccbdaaGreat
section
variable {H : Type} {enc : TypeId × Value → H} {P : Program} {w : World}
theorem wf_u8 {z : Int} (h : (Lit.int .u8 z).wf = true) : 0 ≤ z ∧ z < 256 := by
  simpa [Lit.wf, IntKind.min, IntKind.max, IntKind.signed, IntKind.bits, Int.le_iff_lt_add_one] using h
end
end Go.Proofs.YthcleccofccbdaaGreat
end
section
open Go Go.RowKit Go.WideShapes Go.ChangeShapes Go.Deep
namespace Go.Proofs.YthcleccofccbdaaGreat
end Go.Proofs.YthcleccofccbdaaGreat
end
section
open Go Go.RowKit Go.WideShapes Go.ChangeShapes Go.Deep
namespace Go.Proofs.YthcleccofccbdaaGreat
def byteOf : Value → UInt8
  | .int _ z => UInt8.ofNat z.toNat
  | _ => 0
theorem bs_byteOf (l : List Value) (h : ∀ v ∈ l, ∃ z : Int, v = .int .u8 z ∧ 0 ≤ z ∧ z < 256) : bs (l.map byteOf) = l := by
  induction l with
  | nil => rfl
  | cons v l ih =>
    obtain ⟨z, rfl, h1, h2⟩ := h v (by simp)
    have := ih (fun v hv => h v (by simp [hv]))
    unfold bs at *
    rw [List.map_cons, List.map_cons, this]
    congr 1
    simp only [byteOf, u8v]
    congr 1
    simp
    omega
end Go.Proofs.YthcleccofccbdaaGreat
end
section
open Go Go.RowKit Go.WideShapes Go.ChangeShapes Go.Deep
namespace Go.Proofs.YthcleccofccbdaaGreat
/-- every value of the type that can be read is such a row of cells -/
def ReadsAs (P : Program) (α : Type) [RowC α] (t : TypeId) : Prop :=
  ∀ (H : Type) (enc : TypeId × Value → H) (w : World) (base : Nat) (spare : Nat → Bool) (held : Bool) (fuel : Nat) (cs : List Value) (x : DataW H × List MemPlace), DataW.trod enc P w base spare held fuel t cs = some x → ∃ a : α, cs = RowC.enc a
theorem reads_hash {P : Program} {t e : TypeId} (ht : P.underlying t = some (.array 32 e)) (he : P.underlying e = some (.int .u8)) (ce : P.cellsOf e = 1) (ct : P.cellsOf t = 32) : ReadsAs P H32 t := by
  intro H enc w base spare held fuel cs x hf
  obtain ⟨xs, m, rfl, _, hl, hxl, hel⟩ := DataW.trod_array ht hf
  rw [ct] at hl
  have hb : ∀ v ∈ cs, ∃ z : Int, v = .int .u8 z ∧ 0 ≤ z ∧ z < 256 := by
    intro v hv
    obtain ⟨i, hi, rfl⟩ := List.mem_iff_getElem.1 hv
    have h1 := hel i (by omega)
    rw [ce, Nat.mul_one, List.getElem?_eq_getElem (by omega)] at h1
    obtain ⟨z, h3, _, h4⟩ := DataW.trod_int he h1
    have h5 : (cs.drop i).take 1 = [cs[i]] := by
      rw [List.drop_eq_getElem_cons hi]
      rfl
    rw [h5] at h3
    injection h3 with h3 _
    obtain ⟨h6, h7⟩ := wf_u8 h4
    exact ⟨z, h3, h6, h7⟩
  exact ⟨⟨cs.map byteOf, by rw [List.length_map]; exact hl⟩, (bs_byteOf _ hb).symm⟩
theorem cells_get {w : World} {a : Addr} {n : Nat} {cs : List Value} (h : w.cells? 0 a n = some cs) (j : Nat) (u : Value) (hj : cs[j]? = some u) : w.cell? (a.add j) = some u := by
  obtain ⟨_, h1, h2⟩ := World.cells?_some h
  rw [h2 j (by rw [← h1]; exact (List.getElem?_eq_some_iff.1 hj).1)]
  exact hj
end Go.Proofs.YthcleccofccbdaaGreat
end
section
open Go Go.RowKit Go.WideShapes Go.ChangeShapes Go.Deep
namespace Go.Proofs.YthcleccofccbdaaGreat
end Go.Proofs.YthcleccofccbdaaGreat
end
section
open Go Go.RowKit Go.WideShapes Go.ChangeShapes Go.Deep
namespace Go.Proofs.YthcleccofccbdaaGreat
/-- every value of the type that can be read in this world is such a row of cells, and p holds of it -/
def ReadsP (P : Program) (w : World) (α : Type) [RowC α] (p : α → Prop) (t : TypeId) : Prop :=
  ∀ (H : Type) (enc : TypeId × Value → H) (spare : Nat → Bool) (held : Bool) (fuel : Nat) (cs : List Value) (x : DataW H × List MemPlace), DataW.trod enc P w 0 spare held fuel t cs = some x → ∃ a : α, cs = RowC.enc a ∧ p a
theorem rows_trodP {α : Type} [RowC α] {p : α → Prop} {H : Type} {enc : TypeId × Value → H} {P : Program} {w : World} {spare : Nat → Bool} {held : Bool} {fuel : Nat} {t e : TypeId} {cs : List Value} {x : DataW H × List MemPlace} (ht : P.underlying t = some (.slice e)) (hc : P.cellsOf e = RowC.size α) (hp : 0 < RowC.size α) (hr : ReadsP P w α p e)
    (hf : DataW.trod enc P w 0 spare held fuel t cs = some x) :
    ∃ (A : Option Addr) (n c : Nat) (l : List α), cs = [.slice A n c] ∧ l.length = n ∧ n ≤ maxLen ∧ Rd w A (cellsOf l) ∧ n ≤ c ∧ (∀ b ∈ l, p b) ∧ ((∀ y ∈ x.1.weights P t, y ≤ reachBytes) → n * P.bytesOf e ≤ reachBytes) := by
  rcases DataW.trod_slice ht hf with ⟨hcs, _⟩ | ⟨a, n, cap, elems, rest, m, _, hcs, hx, _, hlc, hcm, hel, hrow, _⟩
  · exact ⟨_, _, _, [], hcs, rfl, by simp, Rd.nil _ _, Nat.le_refl _, (fun b hb => by cases hb), (fun _ => by simp)⟩
  · have hone : ∀ i, i < n → ∃ b : α, w.cells? 0 (a.add (i * RowC.size α)) (RowC.size α) = some (RowC.enc b) ∧ p b := fun i hi => by
      have h1 := hrow i hi
      rw [hc, List.getElem?_eq_getElem (by omega)] at h1
      obtain ⟨cs, h2, h3⟩ := Option.bind_eq_some_iff.1 h1
      obtain ⟨b, rfl, hb⟩ := hr _ _ _ _ _ _ _ h3
      exact ⟨b, h2, hb⟩
    obtain ⟨F, hF⟩ : ∃ F : Nat → α, ∀ i, i < n → w.cells? 0 (a.add (i * RowC.size α)) (RowC.size α) = some (RowC.enc (F i)) ∧ p (F i) :=
      ⟨fun i => if h : i < n then Classical.choose (hone i h) else RowC.zero, fun i hi => by simp only [dif_pos hi]; exact Classical.choose_spec (hone i hi)⟩
    refine ⟨_, _, _, (List.range n).map F, hcs, by simp, by omega, fun k u hk => ⟨a, rfl, ?_⟩, hlc, fun b hb => ?_, fun hw => ?_⟩
    · have hlen : k < n * RowC.size α := by
        have := (List.getElem?_eq_some_iff.1 hk).1
        rwa [cellsOf_len, List.length_map, List.length_range] at this
      have hi : k / RowC.size α < n := (Nat.div_lt_iff_lt_mul hp).2 hlen
      have hj : k % RowC.size α < RowC.size α := Nat.mod_lt _ hp
      have hat := cellsOf_at ((List.range n).map F) (k / RowC.size α) (by simpa using hi)
      have hget : ((List.range n).map F).getD (k / RowC.size α) RowC.zero = F (k / RowC.size α) := by simp [List.getD_eq_getElem?_getD, hi]
      rw [hget] at hat
      have hk2 : (RowC.enc (F (k / RowC.size α)))[k % RowC.size α]? = some u := by
        rw [← hat, List.getElem?_take, if_pos hj, List.getElem?_drop, Nat.mul_comm, Nat.div_add_mod]
        exact hk
      have hcl := cells_get (hF _ hi).1 _ _ hk2
      rw [add_of_add, Nat.mul_comm, Nat.div_add_mod] at hcl
      exact hcl
    · obtain ⟨i, hi, rfl⟩ := List.mem_map.1 hb
      exact (hF i (List.mem_range.1 hi)).2
    · subst hx
      have h5 := hw ((elems.length + rest.length) * P.bytesOf e) (by simp [DataW.weights, ht])
      exact Nat.le_trans (Nat.mul_le_mul_right _ (by omega)) h5
theorem seg {α : Type} (cs : List α) (a b c : Nat) (h : a + b = c) : cs.drop a = (cs.drop a).take b ++ cs.drop c := by
  rw [← h, ← List.drop_drop, List.take_append_drop]
theorem seg_last {α : Type} (cs : List α) (a b : Nat) (h : cs.length = a + b) : cs.drop a = (cs.drop a).take b := by
  rw [List.take_of_length_le]
  rw [List.length_drop]
  omega
theorem reads_of {P : Program} {w : World} {α : Type} [RowC α] {t : TypeId} (h : ReadsAs P α t) : ReadsP P w α (fun _ => True) t := fun H enc spare held fuel cs x hf => by
  obtain ⟨a, ha⟩ := h H enc w 0 spare held fuel cs x hf
  exact ⟨a, ha, trivial⟩
end Go.Proofs.YthcleccofccbdaaGreat
end
section
open Go Go.RowKit Go.WideShapes Go.ChangeShapes Go.Deep
namespace Go.Proofs.YthcleccofccbdaaGreat
theorem weightsAll_mem {H : Type} {P : Program} {e : TypeId} : ∀ {ds : List (DataW H)} {d : DataW H}, d ∈ ds → ∀ u ∈ d.weights P e, u ∈ DataW.weightsAll P e ds
  | d0 :: ds, d, hd, u, hu => by
    rw [DataW.weightsAll, List.mem_append]
    rcases List.mem_cons.1 hd with rfl | hd
    · exact .inl hu
    · exact .inr (weightsAll_mem hd u hu)
/-- every value of the type that can be read in this world is such a row of cells, p holds of it, and q where its weights are within reach -/
def ReadsQ (P : Program) (w : World) (α : Type) [RowC α] (p q : α → Prop) (t : TypeId) : Prop :=
  ∀ (H : Type) (enc : TypeId × Value → H) (spare : Nat → Bool) (held : Bool) (fuel : Nat) (cs : List Value) (x : DataW H × List MemPlace), DataW.trod enc P w 0 spare held fuel t cs = some x → ∃ a : α, cs = RowC.enc a ∧ p a ∧ ((∀ y ∈ x.1.weights P t, y ≤ reachBytes) → q a)
theorem rows_trodQ {α : Type} [RowC α] {p q : α → Prop} {H : Type} {enc : TypeId × Value → H} {P : Program} {w : World} {spare : Nat → Bool} {held : Bool} {fuel : Nat} {t e : TypeId} {cs : List Value} {x : DataW H × List MemPlace} (ht : P.underlying t = some (.slice e)) (hc : P.cellsOf e = RowC.size α) (hp : 0 < RowC.size α) (hr : ReadsQ P w α p q e)
    (hf : DataW.trod enc P w 0 spare held fuel t cs = some x) :
    ∃ (A : Option Addr) (n c : Nat) (l : List α), cs = [.slice A n c] ∧ l.length = n ∧ n ≤ maxLen ∧ Rd w A (cellsOf l) ∧ n ≤ c ∧ (∀ b ∈ l, p b) ∧ ((∀ y ∈ x.1.weights P t, y ≤ reachBytes) → n * P.bytesOf e ≤ reachBytes ∧ ∀ b ∈ l, q b) := by
  rcases DataW.trod_slice ht hf with ⟨hcs, _⟩ | ⟨a, n, cap, elems, rest, m, _, hcs, hx, _, hlc, hcm, hel, hrow, _⟩
  · exact ⟨_, _, _, [], hcs, rfl, by simp, Rd.nil _ _, Nat.le_refl _, (fun b hb => by cases hb), (fun _ => ⟨by simp, fun b hb => by cases hb⟩)⟩
  · have hone : ∀ i, i < n → ∃ b : α, w.cells? 0 (a.add (i * RowC.size α)) (RowC.size α) = some (RowC.enc b) ∧ p b ∧ ∀ hi : i < elems.length, ((∀ y ∈ elems[i].1.weights P e, y ≤ reachBytes) → q b) := fun i hi => by
      have h1 := hrow i hi
      rw [hc, List.getElem?_eq_getElem (by omega)] at h1
      obtain ⟨cs, h2, h3⟩ := Option.bind_eq_some_iff.1 h1
      obtain ⟨b, rfl, hb, hq⟩ := hr _ _ _ _ _ _ _ h3
      exact ⟨b, h2, hb, fun _ => hq⟩
    obtain ⟨F, hF⟩ : ∃ F : Nat → α, ∀ i, i < n → w.cells? 0 (a.add (i * RowC.size α)) (RowC.size α) = some (RowC.enc (F i)) ∧ p (F i) ∧ ∀ hi : i < elems.length, ((∀ y ∈ elems[i].1.weights P e, y ≤ reachBytes) → q (F i)) :=
      ⟨fun i => if h : i < n then Classical.choose (hone i h) else RowC.zero, fun i hi => by simp only [dif_pos hi]; exact Classical.choose_spec (hone i hi)⟩
    refine ⟨_, _, _, (List.range n).map F, hcs, by simp, by omega, fun k u hk => ⟨a, rfl, ?_⟩, hlc, fun b hb => ?_, fun hw => ⟨?_, fun b hb => ?_⟩⟩
    · have hlen : k < n * RowC.size α := by
        have := (List.getElem?_eq_some_iff.1 hk).1
        rwa [cellsOf_len, List.length_map, List.length_range] at this
      have hi : k / RowC.size α < n := (Nat.div_lt_iff_lt_mul hp).2 hlen
      have hj : k % RowC.size α < RowC.size α := Nat.mod_lt _ hp
      have hat := cellsOf_at ((List.range n).map F) (k / RowC.size α) (by simpa using hi)
      have hget : ((List.range n).map F).getD (k / RowC.size α) RowC.zero = F (k / RowC.size α) := by simp [List.getD_eq_getElem?_getD, hi]
      rw [hget] at hat
      have hk2 : (RowC.enc (F (k / RowC.size α)))[k % RowC.size α]? = some u := by
        rw [← hat, List.getElem?_take, if_pos hj, List.getElem?_drop, Nat.mul_comm, Nat.div_add_mod]
        exact hk
      have hcl := cells_get (hF _ hi).1 _ _ hk2
      rw [add_of_add, Nat.mul_comm, Nat.div_add_mod] at hcl
      exact hcl
    · obtain ⟨i, hi, rfl⟩ := List.mem_map.1 hb
      exact (hF i (List.mem_range.1 hi)).2.1
    · subst hx
      have h5 := hw ((elems.length + rest.length) * P.bytesOf e) (by simp [DataW.weights, ht])
      exact Nat.le_trans (Nat.mul_le_mul_right _ (by omega)) h5
    · obtain ⟨i, hi, rfl⟩ := List.mem_map.1 hb
      have hi' : i < elems.length := by have := List.mem_range.1 hi; omega
      refine (hF i (List.mem_range.1 hi)).2.2 hi' (fun y hy => hw y ?_)
      subst hx
      simp only [DataW.weights, ht]
      rw [List.mem_cons, List.mem_append]
      exact .inr (.inl (weightsAll_mem (List.mem_map.2 ⟨elems[i], List.getElem_mem hi', rfl⟩) y hy))
instance iOpens_1 : RowC Row := ⟨1, fun r => [r.v], fun _ => rfl, fun r u hu => by
    rw [List.mem_singleton.1 hu]
    rfl, ⟨none, 0, []⟩⟩
instance (priority := 600) RowC.byte : RowC UInt8 := ⟨1, fun b => [u8v b], fun _ => rfl, fun b u hu => by
    rw [List.mem_singleton.1 hu]
    rfl, 0⟩
/-- a row of bytes that can be read -/
def RowIn (w : World) (r : Row) : Prop := Rd w r.A (bs r.p) ∧ r.p.length ≤ maxLen ∧ r.p.length ≤ r.c
end Go.Proofs.YthcleccofccbdaaGreat
end
end
section
open Go Go.RowKit Go.WideShapes Go.ChangeShapes Go.Deep
namespace Go.Proofs.YthcleccofccbdaaGreat
theorem cIRo : Tryz.prog.cellsOf 3 = 1 := by kernel_rfl
theorem cHRo : Tryz.prog.cellsOf 47 = 32 := by kernel_rfl
theorem cURo : Tryz.prog.cellsOf 5 = 1 := by kernel_rfl
theorem cHsRo : Tryz.prog.cellsOf 40 = 1 := by kernel_rfl
theorem cKRo : Tryz.prog.cellsOf 42 = 2 := by kernel_rfl
theorem cAKRo : Tryz.prog.cellsOf 43 = 8 := by kernel_rfl
theorem cRRo : Tryz.prog.cellsOf 45 = 10 := by kernel_rfl
theorem bHRo : Tryz.prog.bytesOf 47 = 32 := by kernel_rfl
theorem readsHashRo : ReadsAs Tryz.prog H32 47 := reads_hash Tryz.underlying47 Tryz.underlying5 cURo cHRo
theorem trod_fieldsR {H : Type} {enc : TypeId × Value → H} {P : Program} {w : World} {spare : Nat → Bool} {held : Bool} {fuel : Nat} {t : TypeId} {cs : List Value} {x : DataW H × List MemPlace} {fs : Array Field} (ht : P.underlying t = some (.struct fs)) (hf : DataW.trod enc P w 0 spare held fuel t cs = some x) :
    ∃ m, cs.length = P.cellsOf t ∧ ∀ (i : Nat) (f : Field), nth fs.toList i = some f → ∃ y, DataW.trod enc P w 0 spare held m f.type ((cs.drop f.offset).take (P.cellsOf f.type)) = some y ∧ ∀ u ∈ y.1.weights P f.type, u ∈ x.1.weights P t := by
  obtain ⟨xs, m, _, hx, hl, hxl, hel⟩ := DataW.trod_struct ht hf
  refine ⟨m, hl, fun i f hi => ?_⟩
  rw [← nth_get] at hi
  have hi' : fs[i]? = some f := by simpa using hi
  have hlt : i < xs.length := by
    rw [hxl]
    exact (Array.getElem?_eq_some_iff.1 hi').1
  refine ⟨xs[i], by rw [hel i f hi', List.getElem?_eq_getElem hlt], fun u hu => ?_⟩
  rw [hx]
  simp only [DataW.weights, ht]
  exact DataW.weights_mem_each (j := i) (t := f.type) (by rw [List.getElem?_map, hi]; rfl) (by rw [List.getElem?_map, List.getElem?_eq_getElem hlt]; rfl) u hu
/-- cells that are so many pieces, each told -/
theorem pieces {s : Nat} (G : Nat → List Value) : ∀ (n : Nat) (cs : List Value), cs.length = n * s → (∀ i, i < n → (cs.drop (i * s)).take s = G i) → cs = (List.range n).flatMap G
  | 0, cs, hl, _ => by
    have : cs.length = 0 := by simpa using hl
    rw [List.eq_nil_of_length_eq_zero this]
    rfl
  | n + 1, cs, hl, h => by
    have h0 : (n + 1) * s = n * s + s := Nat.succ_mul n s
    have h1 := pieces (s := s) G n (cs.take (n * s)) (by rw [List.length_take]; omega) (fun i hi => by
      rw [← h i (by omega), List.drop_take, List.take_take]
      congr 1
      have h2 : (i + 1) * s ≤ n * s := Nat.mul_le_mul_right s hi
      have h3 : (i + 1) * s = i * s + s := Nat.succ_mul i s
      omega)
    have h2 := h n (by omega)
    rw [List.take_of_length_le (by rw [List.length_drop]; omega)] at h2
    rw [List.range_succ, List.flatMap_append, ← h1]
    show cs = cs.take (n * s) ++ (G n ++ [])
    rw [List.append_nil, ← h2, List.take_append_drop]
/-- what is told of keys that are read -/
structure KIn0 (w : World) (k : KR) : Prop where
  rd : Rd w k.A (cellsOf k.l)
  len : k.l.length = k.n
  cap : k.n ≤ k.c
set_option maxRecDepth 100000 in
theorem readsQ_keys (w : World) : ReadsQ Tryz.prog w KR (KIn0 w) (fun k => k.n ≤ 4398046511104) 42 := fun H enc spare held fuel cs x hf => by
  obtain ⟨m0, hl, E⟩ := trod_fieldsR Tryz.underlying42 hf
  obtain ⟨y0, e0, w0⟩ := E 0 _ rfl
  obtain ⟨y1, e1, _⟩ := E 1 _ rfl
  dsimp only at e0 e1 w0
  rw [cHsRo] at e0
  rw [cIRo] at e1
  rw [cKRo] at hl
  obtain ⟨A, n, c, l, g0, l0, _, r0, c0, _, q0⟩ := rows_trodP (α := H32) Tryz.underlying40 cHRo (by decide) (reads_of readsHashRo) e0
  obtain ⟨z, g1, _, _⟩ := DataW.trod_int Tryz.underlying3 e1
  refine ⟨⟨A, n, c, l, z⟩, ?_, ⟨r0, l0, c0⟩, fun hw => ?_⟩
  · show cs = [.slice A n c, .int .i64 z]
    have q : cs = cs.drop 0 := rfl
    rw [q, seg cs 0 1 1 rfl, seg_last cs 1 1 hl, g0, g1]
    rfl
  · have h1 := q0 (fun u hu => hw u (w0 u hu))
    rw [bHRo] at h1
    have h9 : reachBytes = 140737488351232 := by decide
    show n ≤ _
    omega
set_option maxRecDepth 100000 in
theorem open_root {H : Type} {enc : TypeId × Value → H} {w : World} {r : Reach} {b0 : Nat} {v : Value} {d : DataW H} {ps : List MemPlace}
    (hval : Value.okWide Tryz.prog w r b0 45 v) (h : DataW.Trod enc Tryz.prog w 0 (fun _ => true) true 45 v d ps) :
    ∃ (a b : Int) (K : List KR), v = .agg (rtL a b K).toArray ∧ K.length = 4 ∧ (∀ k ∈ K, KIn0 w k) ∧ ((∀ y ∈ d.weights Tryz.prog 45, y ≤ reachBytes) → ∀ k ∈ K, k.n ≤ 4398046511104) := by
  obtain ⟨cs, rfl, hsz⟩ := okWide_struct Tryz.underlying45 hval
  obtain ⟨fuel, hf⟩ := h
  obtain ⟨m0, hl, E⟩ := trod_fieldsR Tryz.underlying45 hf
  have hcs : (Value.agg cs).cells.toList = cs.toList := rfl
  rw [hcs] at hl
  obtain ⟨y0, e0, _⟩ := E 0 _ rfl
  obtain ⟨y1, e1, _⟩ := E 1 _ rfl
  obtain ⟨y2, e2, w2⟩ := E 2 _ rfl
  dsimp only at e0 e1 e2 w2
  rw [cIRo, hcs] at e0 e1
  rw [cAKRo, hcs] at e2
  rw [cRRo] at hl
  obtain ⟨z0, g0, _, _⟩ := DataW.trod_int Tryz.underlying3 e0
  obtain ⟨z1, g1, _, _⟩ := DataW.trod_int Tryz.underlying3 e1
  obtain ⟨xs, m, _, hx, hl2, hxl, hel⟩ := DataW.trod_array Tryz.underlying43 e2
  rw [cAKRo] at hl2
  have hone : ∀ i, i < 4 → ∃ k : KR, ((((cs.toList.drop 2).take 8).drop (i * 2)).take 2) = RowC.enc k ∧ KIn0 w k ∧ ((∀ y ∈ d.weights Tryz.prog 45, y ≤ reachBytes) → k.n ≤ 4398046511104) := fun i hi => by
    have h1 := hel i hi
    rw [cKRo, List.getElem?_eq_getElem (by omega)] at h1
    obtain ⟨k, hk, hp, hq⟩ := readsQ_keys w _ _ _ _ _ _ _ h1
    refine ⟨k, hk, hp, fun hw => hq (fun u hu => hw u (w2 u ?_))⟩
    rw [hx]
    simp only [DataW.weights, Tryz.underlying43]
    exact weightsAll_mem (d := (xs[i]).1) (List.mem_map.2 ⟨xs[i], List.getElem_mem _, rfl⟩) u hu
  obtain ⟨F, hF⟩ : ∃ F : Nat → KR, ∀ i, i < 4 → ((((cs.toList.drop 2).take 8).drop (i * 2)).take 2) = RowC.enc (F i) ∧ KIn0 w (F i) ∧ ((∀ y ∈ d.weights Tryz.prog 45, y ≤ reachBytes) → (F i).n ≤ 4398046511104) :=
    ⟨fun i => if h : i < 4 then Classical.choose (hone i h) else RowC.zero, fun i hi => by simp only [dif_pos hi]; exact Classical.choose_spec (hone i hi)⟩
  have hp := pieces (s := 2) (fun i => RowC.enc (F i)) 4 _ hl2 (fun i hi => (hF i hi).1)
  refine ⟨z0, z1, (List.range 4).map F, ?_, by simp, fun k hk => ?_, fun hw k hk => ?_⟩
  · congr 1
    apply Array.ext'
    have q : cs.toList = cs.toList.drop 0 := rfl
    have h8 : cs.toList.drop 2 = cellsOf ((List.range 4).map F) := by
      rw [seg_last cs.toList 2 8 hl, hp, cellsOf, List.flatMap_map]
    rw [q, seg cs.toList 0 1 1 rfl, seg cs.toList 1 1 2 rfl, h8, g0, g1]
    rfl
  · obtain ⟨i, hi, rfl⟩ := List.mem_map.1 hk
    exact (hF i (List.mem_range.1 hi)).2.1
  · obtain ⟨i, hi, rfl⟩ := List.mem_map.1 hk
    exact (hF i (List.mem_range.1 hi)).2.2 hw
end Go.Proofs.YthcleccofccbdaaGreat
end
section
open Go Go.RowKit
namespace Go.Proofs.YthcleccofccbdaaGreat
instance factNilR : Fact' (([] : List UInt8).length ≤ maxLen) := ⟨Nat.zero_le _⟩
theorem run_keys4 (a b c d : KR) (w : World) : (Instr.buildSlice 106 4 #[(0, .agg (RowC.enc a).toArray), (1, .agg (RowC.enc b).toArray), (2, .agg (RowC.enc c).toArray), (3, .agg (RowC.enc d).toArray)]).run Tryz.prog w = .ok (.slice (some ⟨w.heap.size, 0, none⟩) 4 4) (w.alloc (.cells (cellsOf [a, b, c, d]).toArray 42)) := by kernel_rfl
theorem HB.keys {w : World} {z : Nat} {t : TypeId} {K : List KR} (h : HB w z t (cellsOf K).toArray) : HR w (some ⟨z, 0, none⟩) (cellsOf K) := ⟨by
  have h1 := h.rdL
  simpa using h1⟩
end Go.Proofs.YthcleccofccbdaaGreat
end
section
open Go Go.RowKit Go.WideShapes Go.ChangeShapes Go.Deep
namespace Go.Proofs.YthcleccofccbdaaGreat
theorem cSSn : Tryz.prog.cellsOf 9 = 1 := by kernel_rfl
theorem cPSn : Tryz.prog.cellsOf 122 = 2 := by kernel_rfl
theorem cPsSn : Tryz.prog.cellsOf 50 = 1 := by kernel_rfl
theorem cSnSn : Tryz.prog.cellsOf 52 = 3 := by kernel_rfl
theorem strL_eta (s : ByteArray) : s = strL s.data.toList := by
  cases s
  simp [strL]
set_option maxRecDepth 100000 in
theorem readsP_pin (w : World) : ReadsP Tryz.prog w PinR (fun p => p.l.length ≤ maxLen) 122 := fun H enc spare held fuel cs x hf => by
  obtain ⟨m0, hl, E⟩ := trod_fieldsR Tryz.underlying122 hf
  obtain ⟨y0, e0, _⟩ := E 0 _ rfl
  obtain ⟨y1, e1, _⟩ := E 1 _ rfl
  dsimp only at e0 e1
  rw [cSSn] at e0
  rw [cIRo] at e1
  rw [cPSn] at hl
  obtain ⟨s0, g0, _, hs0⟩ := DataW.trod_string Tryz.underlying9 e0
  obtain ⟨z, g1, _, _⟩ := DataW.trod_int Tryz.underlying3 e1
  refine ⟨⟨s0.data.toList, z⟩, ?_, ?_⟩
  · show cs = [.string (strL s0.data.toList), .int .i64 z]
    rw [← strL_eta]
    have q : cs = cs.drop 0 := rfl
    rw [q, seg cs 0 1 1 rfl, seg_last cs 1 1 hl, g0, g1]
    rfl
  · show s0.data.toList.length ≤ maxLen
    rw [Array.length_toList]
    exact hs0
set_option maxRecDepth 100000 in
theorem open_snap {H : Type} {enc : TypeId × Value → H} {w : World} {r : Reach} {b0 : Nat} {v : Value} {d : DataW H} {ps : List MemPlace}
    (hval : Value.okWide Tryz.prog w r b0 52 v) (h : DataW.Trod enc Tryz.prog w 0 (fun _ => true) true 52 v d ps) :
    ∃ (a b : Int) (A : Option Addr) (n c : Nat) (P : List PinR), v = .agg #[.int .i64 a, .int .i64 b, .slice A n c] ∧ P.length = n ∧ n ≤ maxLen ∧ HR w A (cellsOf P) ∧ n ≤ c ∧ (∀ p ∈ P, p.l.length ≤ maxLen) := by
  obtain ⟨cs, rfl, hsz⟩ := okWide_struct Tryz.underlying52 hval
  obtain ⟨fuel, hf⟩ := h
  obtain ⟨m0, hl, E⟩ := trod_fieldsR Tryz.underlying52 hf
  have hcs : (Value.agg cs).cells.toList = cs.toList := rfl
  rw [hcs] at hl
  obtain ⟨y0, e0, _⟩ := E 0 _ rfl
  obtain ⟨y1, e1, _⟩ := E 1 _ rfl
  obtain ⟨y2, e2, _⟩ := E 2 _ rfl
  dsimp only at e0 e1 e2
  rw [cIRo, hcs] at e0 e1
  rw [cPsSn, hcs] at e2
  rw [cSnSn] at hl
  obtain ⟨z0, g0, _, _⟩ := DataW.trod_int Tryz.underlying3 e0
  obtain ⟨z1, g1, _, _⟩ := DataW.trod_int Tryz.underlying3 e1
  obtain ⟨A, n, c, P, g2, l2, m2, r2, c2, p2, _⟩ := rows_trodP (α := PinR) Tryz.underlying50 cPSn (by decide) (readsP_pin w) e2
  refine ⟨z0, z1, A, n, c, P, ?_, l2, m2, ⟨r2⟩, c2, p2⟩
  congr 1
  apply Array.ext'
  have q : cs.toList = cs.toList.drop 0 := rfl
  rw [q, seg cs.toList 0 1 1 rfl, seg cs.toList 1 1 2 rfl, seg_last cs.toList 2 1 hl, g0, g1, g2]
  rfl
end Go.Proofs.YthcleccofccbdaaGreat
end
section
open Go Go.RowKit Go.WideShapes Go.ChangeShapes Go.Deep
namespace Go.Proofs.YthcleccofccbdaaGreat
theorem cIW : Tryz.prog.cellsOf 3 = 1 := by kernel_rfl
theorem cHW : Tryz.prog.cellsOf 47 = 32 := by kernel_rfl
theorem cUW : Tryz.prog.cellsOf 5 = 1 := by kernel_rfl
theorem cSW : Tryz.prog.cellsOf 9 = 1 := by kernel_rfl
theorem cTW : Tryz.prog.cellsOf 49 = 35 := by kernel_rfl
theorem cRW : Tryz.prog.cellsOf 54 = 36 := by kernel_rfl
theorem readsHashW : ReadsAs Tryz.prog H32 47 := reads_hash Tryz.underlying47 Tryz.underlying5 cUW cHW
theorem trod_fieldsW {H : Type} {enc : TypeId × Value → H} {P : Program} {w : World} {spare : Nat → Bool} {held : Bool} {fuel : Nat} {t : TypeId} {cs : List Value} {x : DataW H × List MemPlace} {fs : Array Field} (ht : P.underlying t = some (.struct fs)) (hf : DataW.trod enc P w 0 spare held fuel t cs = some x) :
    ∃ m, cs.length = P.cellsOf t ∧ ∀ (i : Nat) (f : Field), nth fs.toList i = some f → ∃ y, DataW.trod enc P w 0 spare held m f.type ((cs.drop f.offset).take (P.cellsOf f.type)) = some y := by
  obtain ⟨xs, m, _, hx, hl, hxl, hel⟩ := DataW.trod_struct ht hf
  refine ⟨m, hl, fun i f hi => ?_⟩
  rw [← nth_get] at hi
  have hi' : fs[i]? = some f := by simpa using hi
  have hlt : i < xs.length := by
    rw [hxl]
    exact (Array.getElem?_eq_some_iff.1 hi').1
  exact ⟨xs[i], by rw [hel i f hi', List.getElem?_eq_getElem hlt]⟩
set_option maxRecDepth 100000 in
theorem open_time {H : Type} {enc : TypeId × Value → H} {w : World} {r : Reach} {b0 : Nat} {v : Value} {d : DataW H} {ps : List MemPlace}
    (hval : Value.okWide Tryz.prog w r b0 49 v) (h : DataW.Trod enc Tryz.prog w 0 (fun _ => true) true 49 v d ps) :
    ∃ (a b c : Int) (hh : H32), v = .agg (timL a b c hh).toArray := by
  obtain ⟨cs, rfl, hsz⟩ := okWide_struct Tryz.underlying49 hval
  obtain ⟨fuel, hf⟩ := h
  obtain ⟨m0, hl, E⟩ := trod_fieldsW Tryz.underlying49 hf
  have hcs : (Value.agg cs).cells.toList = cs.toList := rfl
  rw [hcs] at hl
  obtain ⟨y0, e0⟩ := E 0 _ rfl
  obtain ⟨y1, e1⟩ := E 1 _ rfl
  obtain ⟨y2, e2⟩ := E 2 _ rfl
  obtain ⟨y3, e3⟩ := E 3 _ rfl
  dsimp only at e0 e1 e2 e3
  rw [cIW, hcs] at e0 e1 e2
  rw [cHW, hcs] at e3
  rw [cTW] at hl
  obtain ⟨z0, g0, _, _⟩ := DataW.trod_int Tryz.underlying3 e0
  obtain ⟨z1, g1, _, _⟩ := DataW.trod_int Tryz.underlying3 e1
  obtain ⟨z2, g2, _, _⟩ := DataW.trod_int Tryz.underlying3 e2
  obtain ⟨hh, g3⟩ := readsHashW _ _ _ _ _ _ _ _ _ e3
  refine ⟨z0, z1, z2, hh, ?_⟩
  congr 1
  apply Array.ext'
  have q : cs.toList = cs.toList.drop 0 := rfl
  rw [q, seg cs.toList 0 1 1 rfl, seg cs.toList 1 1 2 rfl, seg cs.toList 2 1 3 rfl, seg_last cs.toList 3 32 hl, g0, g1, g2, g3]
  rfl
set_option maxRecDepth 100000 in
theorem open_report {H : Type} {enc : TypeId × Value → H} {w : World} {r : Reach} {b0 : Nat} {v : Value} {d : DataW H} {ps : List MemPlace}
    (hval : Value.okWide Tryz.prog w r b0 54 v) (h : DataW.Trod enc Tryz.prog w 0 (fun _ => true) true 54 v d ps) :
    ∃ (u n : ByteArray) (hh : H32) (c k : Int), v = .agg (repL u n hh c k).toArray ∧ u.size ≤ maxLen ∧ n.size ≤ maxLen := by
  obtain ⟨cs, rfl, hsz⟩ := okWide_struct Tryz.underlying54 hval
  obtain ⟨fuel, hf⟩ := h
  obtain ⟨m0, hl, E⟩ := trod_fieldsW Tryz.underlying54 hf
  have hcs : (Value.agg cs).cells.toList = cs.toList := rfl
  rw [hcs] at hl
  obtain ⟨y0, e0⟩ := E 0 _ rfl
  obtain ⟨y1, e1⟩ := E 1 _ rfl
  obtain ⟨y2, e2⟩ := E 2 _ rfl
  obtain ⟨y3, e3⟩ := E 3 _ rfl
  obtain ⟨y4, e4⟩ := E 4 _ rfl
  dsimp only at e0 e1 e2 e3 e4
  rw [cSW, hcs] at e0 e1
  rw [cHW, hcs] at e2
  rw [cIW, hcs] at e3 e4
  rw [cRW] at hl
  obtain ⟨s0, g0, _, hs0⟩ := DataW.trod_string Tryz.underlying9 e0
  obtain ⟨s1, g1, _, hs1⟩ := DataW.trod_string Tryz.underlying9 e1
  obtain ⟨hh, g2⟩ := readsHashW _ _ _ _ _ _ _ _ _ e2
  obtain ⟨z3, g3, _, _⟩ := DataW.trod_int Tryz.underlying3 e3
  obtain ⟨z4, g4, _, _⟩ := DataW.trod_int Tryz.underlying3 e4
  refine ⟨s0, s1, hh, z3, z4, ?_, hs0, hs1⟩
  congr 1
  apply Array.ext'
  have q : cs.toList = cs.toList.drop 0 := rfl
  rw [q, seg cs.toList 0 1 1 rfl, seg cs.toList 1 1 2 rfl, seg cs.toList 2 32 34 rfl, seg cs.toList 34 1 35 rfl, seg_last cs.toList 35 1 hl, g0, g1, g2, g3, g4]
  rfl
end Go.Proofs.YthcleccofccbdaaGreat
end
section
open Go Go.RowKit Go.WideShapes Go.ChangeShapes Go.Deep
namespace Go.Proofs.YthcleccofccbdaaGreat
theorem cTgW : Tryz.prog.cellsOf 83 = 37 := by kernel_rfl
end Go.Proofs.YthcleccofccbdaaGreat
end
section
open Go Go.RowKit Go.WideShapes Go.ChangeShapes Go.Deep
namespace Go.Proofs.YthcleccofccbdaaGreat
theorem cBFw : Tryz.prog.cellsOf 4 = 1 := by kernel_rfl
theorem cDlFw : Tryz.prog.cellsOf 85 = 5 := by kernel_rfl
theorem cTgsFw : Tryz.prog.cellsOf 22 = 1 := by kernel_rfl
theorem cDlsFw : Tryz.prog.cellsOf 23 = 1 := by kernel_rfl
theorem cTsFw : Tryz.prog.cellsOf 25 = 5 := by kernel_rfl
def TgLens (t : TargetR) : Prop := t.l.length ≤ maxLen ∧ t.hw.length ≤ maxLen ∧ t.ecu.length ≤ maxLen
theorem strLen (s : ByteArray) (h : s.size ≤ maxLen) : s.data.toList.length ≤ maxLen := by
  rw [Array.length_toList]
  exact h
set_option maxRecDepth 100000 in
theorem readsP_target (w : World) : ReadsP Tryz.prog w TargetR TgLens 83 := fun H enc spare held fuel cs x hf => by
  obtain ⟨m0, hl, E⟩ := trod_fieldsR Tryz.underlying83 hf
  obtain ⟨y0, e0, _⟩ := E 0 _ rfl
  obtain ⟨y1, e1, _⟩ := E 1 _ rfl
  obtain ⟨y2, e2, _⟩ := E 2 _ rfl
  obtain ⟨y3, e3, _⟩ := E 3 _ rfl
  obtain ⟨y4, e4, _⟩ := E 4 _ rfl
  obtain ⟨y5, e5, _⟩ := E 5 _ rfl
  dsimp only at e0 e1 e2 e3 e4 e5
  rw [cSW] at e0 e3 e5
  rw [cHW] at e2
  rw [cIW] at e1 e4
  rw [cTgW] at hl
  obtain ⟨s0, g0, _, hs0⟩ := DataW.trod_string Tryz.underlying9 e0
  obtain ⟨z1, g1, _, _⟩ := DataW.trod_int Tryz.underlying3 e1
  obtain ⟨hh, g2⟩ := readsHashW _ _ _ _ _ _ _ _ _ e2
  obtain ⟨s3, g3, _, hs3⟩ := DataW.trod_string Tryz.underlying9 e3
  obtain ⟨z4, g4, _, _⟩ := DataW.trod_int Tryz.underlying3 e4
  obtain ⟨s5, g5, _, hs5⟩ := DataW.trod_string Tryz.underlying9 e5
  refine ⟨⟨s0.data.toList, z1, hh, s3.data.toList, z4, s5.data.toList⟩, ?_, strLen _ hs0, strLen _ hs3, strLen _ hs5⟩
  have q : cs = cs.drop 0 := rfl
  rw [q, seg cs 0 1 1 rfl, seg cs 1 1 2 rfl, seg cs 2 32 34 rfl, seg cs 34 1 35 rfl, seg cs 35 1 36 rfl, seg_last cs 36 1 hl, g0, g1, g2, g3, g4, g5]
  show _ = Value.string (strL s0.data.toList) :: .int .i64 z1 :: (bs hh.l ++ [.string (strL s3.data.toList), .int .i64 z4, .string (strL s5.data.toList)])
  rw [← strL_eta, ← strL_eta, ← strL_eta]
  rfl
def DlLens (w : World) (d : DeleR) : Prop := d.l.length ≤ maxLen ∧ d.pre.length ≤ maxLen ∧ KIn0 w d.k
set_option maxRecDepth 100000 in
theorem readsQ_dele (w : World) : ReadsQ Tryz.prog w DeleR (DlLens w) (fun d => d.k.n ≤ 4398046511104) 85 := fun H enc spare held fuel cs x hf => by
  obtain ⟨m0, hl, E⟩ := trod_fieldsR Tryz.underlying85 hf
  obtain ⟨y0, e0, _⟩ := E 0 _ rfl
  obtain ⟨y1, e1, w1⟩ := E 1 _ rfl
  obtain ⟨y2, e2, _⟩ := E 2 _ rfl
  obtain ⟨y3, e3, _⟩ := E 3 _ rfl
  dsimp only at e0 e1 e2 e3 w1
  rw [cSW] at e0 e2
  rw [cKRo] at e1
  rw [cBFw] at e3
  rw [cDlFw] at hl
  obtain ⟨s0, g0, _, hs0⟩ := DataW.trod_string Tryz.underlying9 e0
  obtain ⟨k, g1, hp, hq⟩ := readsQ_keys w _ _ _ _ _ _ _ e1
  obtain ⟨s2, g2, _, hs2⟩ := DataW.trod_string Tryz.underlying9 e2
  obtain ⟨b, g3, _⟩ := DataW.trod_bool Tryz.underlying4 e3
  refine ⟨⟨s0.data.toList, k, s2.data.toList, b⟩, ?_, ⟨strLen _ hs0, strLen _ hs2, hp⟩, fun hw => hq (fun u hu => hw u (w1 u hu))⟩
  have q : cs = cs.drop 0 := rfl
  rw [q, seg cs 0 1 1 rfl, seg cs 1 2 3 rfl, seg cs 3 1 4 rfl, seg_last cs 4 1 hl, g0, g1, g2, g3]
  show _ = [Value.string (strL s0.data.toList), .slice k.A k.n k.c, .int .i64 k.need, .string (strL s2.data.toList), .bool b]
  rw [← strL_eta, ← strL_eta]
  rfl
set_option maxRecDepth 100000 in
theorem open_targets {H : Type} {enc : TypeId × Value → H} {w : World} {r : Reach} {b0 : Nat} {v : Value} {d : DataW H} {ps : List MemPlace}
    (hval : Value.okWide Tryz.prog w r b0 25 v) (h : DataW.Trod enc Tryz.prog w 0 (fun _ => true) true 25 v d ps) :
    ∃ (nm : List UInt8) (a b : Int) (A C : Option Addr) (n c m q : Nat) (P : List TargetR) (D : List DeleR), v = .agg #[.string (strL nm), .int .i64 a, .int .i64 b, .slice A n c, .slice C m q] ∧ nm.length ≤ maxLen ∧ (P.length = n ∧ n ≤ maxLen ∧ Rd w A (cellsOf P) ∧ n ≤ c ∧ ∀ t ∈ P, TgLens t) ∧ (D.length = m ∧ m ≤ maxLen ∧ Rd w C (cellsOf D) ∧ m ≤ q ∧ ∀ t ∈ D, DlLens w t) ∧ ((∀ y ∈ d.weights Tryz.prog 25, y ≤ reachBytes) → n ≤ 1466015503700 ∧ m ≤ 1954687338769 ∧ ∀ t ∈ D, t.k.n ≤ 4398046511104) := by
  obtain ⟨cs, rfl, hsz⟩ := okWide_struct Tryz.underlying25 hval
  obtain ⟨fuel, hf⟩ := h
  obtain ⟨m0, hl, E⟩ := trod_fieldsR Tryz.underlying25 hf
  have hcs : (Value.agg cs).cells.toList = cs.toList := rfl
  rw [hcs] at hl
  obtain ⟨y0, e0, _⟩ := E 0 _ rfl
  obtain ⟨y1, e1, _⟩ := E 1 _ rfl
  obtain ⟨y2, e2, _⟩ := E 2 _ rfl
  obtain ⟨y3, e3, w3⟩ := E 3 _ rfl
  obtain ⟨y4, e4, w4⟩ := E 4 _ rfl
  dsimp only at e0 e1 e2 e3 e4 w3 w4
  rw [cSW, hcs] at e0
  rw [cIW, hcs] at e1 e2
  rw [cTgsFw, hcs] at e3
  rw [cDlsFw, hcs] at e4
  rw [cTsFw] at hl
  obtain ⟨s0, g0, _, hs0⟩ := DataW.trod_string Tryz.underlying9 e0
  obtain ⟨z1, g1, _, _⟩ := DataW.trod_int Tryz.underlying3 e1
  obtain ⟨z2, g2, _, _⟩ := DataW.trod_int Tryz.underlying3 e2
  obtain ⟨A, n, c, P, g3, l3, m3, r3, c3, p3, q3⟩ := rows_trodP (α := TargetR) Tryz.underlying22 cTgW (by decide) (readsP_target w) e3
  obtain ⟨C, m, q, D, g4, l4, m4, r4, c4, p4, q4⟩ := rows_trodQ (α := DeleR) Tryz.underlying23 cDlFw (by decide) (readsQ_dele w) e4
  refine ⟨s0.data.toList, z1, z2, A, C, n, c, m, q, P, D, ?_, strLen _ hs0, ⟨l3, m3, r3, c3, p3⟩, ⟨l4, m4, r4, c4, p4⟩, fun hw => ?_⟩
  · congr 1
    apply Array.ext'
    have q : cs.toList = cs.toList.drop 0 := rfl
    rw [q, seg cs.toList 0 1 1 rfl, seg cs.toList 1 1 2 rfl, seg cs.toList 2 1 3 rfl, seg cs.toList 3 1 4 rfl, seg_last cs.toList 4 1 hl, g0, g1, g2, g3, g4]
    rw [← strL_eta]
    rfl
  · have h1 := q3 (fun u hu => hw u (w3 u hu))
    have h2 := q4 (fun u hu => hw u (w4 u hu))
    have b1 : Tryz.prog.bytesOf 83 = 96 := by kernel_rfl
    have b2 : Tryz.prog.bytesOf 85 = 72 := by kernel_rfl
    have h9 : reachBytes = 140737488351232 := by decide
    rw [b1] at h1
    rw [b2] at h2
    exact ⟨by omega, by omega, h2.2⟩
end Go.Proofs.YthcleccofccbdaaGreat
end
section
open Go Go.RowKit
namespace Go.Proofs.YthcleccofccbdaaGreat
theorem ownK : ownKnob Tryz.prog.godebug = none := by kernel_rfl
theorem laidOutP : laidOutB Tryz.prog = true := by kernel_rfl
end Go.Proofs.YthcleccofccbdaaGreat
end
