/- Opens, WyO, RoO, SnO, TgO, FwO, RlT, Plain -/
import Derived.Test.YtgjnjhhhbkidbaaGreatUbBase
import Derived.ProofKit
import Derived.OpenShut
import Derived.ChangeSame
import Derived.Carry
import Derived.Deep.DeepHandedRow
import Derived.Deep.Slices
import Derived.Lib.LaidTab
import Derived.Deep.Matrix
import Derived.Deep.Grids
import Derived.Test.YtgjnjhhhbkidbaaGreatUbWyQ
import Derived.Test.YtgjnjhhhbkidbaaGreatUbRoK
import Derived.Test.YtgjnjhhhbkidbaaGreatUbSnC
import Derived.Test.YtgjnjhhhbkidbaaGreatUbTgA
import Derived.Test.YtgjnjhhhbkidbaaGreatUbTgE
import Derived.Test.YtgjnjhhhbkidbaaGreatUbRlS
import Derived.Test.YtgjnjhhhbkidbaaGreatRows
section
section
open Go Go.RowKit Go.WideShapes Go.ChangeShapes
namespace Go.Proofs.YtgjnjhhhbkidbaaGreat
section
variable {H : Type} {enc : TypeId × Value → H} {P : Program}
theorem post_of_below {f : Func} {s : ChangeSpec} {apart fresh handsOn again : Bool} {W W' : World} {args : Array Value} {v : Value} {ds gs : List (DataW H)} {before pa pv : List MemPlace}
    (hW : DataW.Whole enc P f.params.toList s.vars apart W args.toList ds gs before)
    (hres : ∀ (b : Nat) (sp : Nat → Bool) (hd : Bool), DataW.TrodAll enc P W' b sp hd f.resultTypes.toList (v.resultList f.resultTypes.size) (s.fn H (ds ++ gs)).results [])
    (hargs : ∀ sp : Nat → Bool, (∀ p ∈ before, sp p.block = true) → DataW.TrodAll enc P W' 0 sp true f.params.toList args.toList (s.fn H (ds ++ gs)).args pa)
    (hvars : ∀ sp : Nat → Bool, (∀ p ∈ before, sp p.block = true) → DataW.TrodVars enc P W' sp s.vars (s.fn H (ds ++ gs)).vars pv)
    (hps : before = pa ++ pv) (hb : Below W.heap.size W W')
    (hok : ∀ (j : Nat) (t : TypeId) (r : Value), f.resultTypes[j]? = some t → (v.resultList f.resultTypes.size)[j]? = some r → Value.okWide P W' .any 0 t r) :
    s.post enc P f apart fresh handsOn again W args v W' := by
  have hlt : ∀ p ∈ before, p.block < W.heap.size := fun p hp => hW.lt p hp
  have hold : ∀ p ∈ before, (fun b => decide (b < W.heap.size)) p.block = true := fun p hp => by simpa using hlt p hp
  refine ⟨ds, gs, before, [], pa, pv, hW, hres _ _ _, hargs _ hold, hvars _ hold, World.keptBut_mono (fun p hp => ⟨hp, ?_⟩) (hb.frame (· ∈ before)), fun _ => ?_⟩
  · rw [hps, List.mem_append] at hp
    exact Or.inr hp
  · obtain ⟨_, _, _, _, _, hz, hn⟩ := hW
    refine ⟨hok, _, _, ([] ++ pa) ++ pv, ⟨[] ++ pa, pv, trodAll_append (hargs _ (fun _ _ => rfl)) (hres _ _ _), hvars _ (fun _ _ => rfl), rfl, ?_, ?_⟩, ?_⟩
    · intro b off hp
      have hin : MemPlace.cell b off ∈ before := by rw [hps]; simpa using hp
      rw [hb.frozen (hlt _ hin)]
      exact hz b off hin
    · intro ha
      have := hn ha
      rw [hps] at this
      simpa using this
    · intro p hp _
      rw [hps]
      simpa using hp
theorem trodAll_stays (hl : laidOutB P = true) {W W' : World} {sp : Nat → Bool} : ∀ (ts : List TypeId) (vs : List Value) (ds : List (DataW H)) (ps : List MemPlace), (∀ t ∈ ts, P.readableRec t = true ∧ t < P.types.size) →
    DataW.TrodAll enc P W 0 (fun _ => true) true ts vs ds ps → (∀ p ∈ ps, W.sameAt W' p) → (∀ p ∈ ps, sp p.block = true) → DataW.TrodAll enc P W' 0 sp true ts vs ds ps
  | [], vs, ds, ps, _, h, _, _ => by
    obtain ⟨rfl, rfl, rfl⟩ := trodAll_nil h
    exact trodAll_mk0
  | t :: ts, vs, ds, ps, hr, h, hsame, hs => by
    obtain ⟨v, vs', d, ds', p, q, rfl, rfl, rfl, hd, hrest⟩ := trodAll_cons h
    refine trodAll_cons_mk (WideElems.Trod_stays hl (hr t (by simp)).1 (hr t (by simp)).2 hd (fun x hx => hsame x (by simp [hx])) (fun x hx => hs x (by simp [hx]))) ?_
    exact trodAll_stays hl ts vs' ds' q (fun t ht => hr t (by simp [ht])) hrest (fun x hx => hsame x (by simp [hx])) (fun x hx => hs x (by simp [hx]))
theorem post_law {f : Func} {s : ChangeSpec} {apart fresh handsOn again : Bool} {W W' : World} {args : Array Value} {ds gs : List (DataW H)} {before : List MemPlace}
    (hl : laidOutB P = true) (hread' : f.params.toList.all (fun t => P.readableRec t && decide (t < P.types.size)) = true) (hv : s.vars = [])
    (hW : DataW.Whole enc P f.params.toList s.vars apart W args.toList ds gs before)
    (hfn : s.fn H ds = { results := [.lit (.bool true)], args := ds }) {b : TypeId} (hr : f.resultTypes = #[b]) (hb : P.underlying b = some .bool)
    (hbelow : Below W.heap.size W W') : s.post enc P f apart fresh handsOn again W args (.bool true) W' := by
  have hread : ∀ t ∈ f.params.toList, P.readableRec t = true ∧ t < P.types.size := fun t ht => by
    have := List.all_eq_true.1 hread' t ht
    simpa using this
  have hlt : ∀ p ∈ before, p.block < W.heap.size := fun p hp => hW.lt p hp
  have hW' := hW
  obtain ⟨p, q, hA, hV, rfl, _, _⟩ := hW
  have hgs : gs = [] ∧ q = [] := by
    rw [hv] at hV
    exact trodVars_none hV
  obtain ⟨rfl, rfl⟩ := hgs
  rw [List.append_nil] at hW' hlt
  refine post_of_below (pa := p) (pv := []) hW' ?_ ?_ ?_ (by simp) hbelow ?_
  · intro b' sp hd
    rw [List.append_nil, hfn, hr]
    exact trodAll_cons_mk (shut_bool hb true) trodAll_mk0
  · intro sp hsp
    rw [List.append_nil, hfn]
    exact trodAll_stays hl _ _ _ _ hread hA (fun x hx => hbelow.same (hlt x hx)) hsp
  · intro sp hsp
    rw [hv]
    rw [List.append_nil, hfn]
    exact rfl
  · exact ok_one hr rfl (okWide_bool_mk hb true)
end
end Go.Proofs.YtgjnjhhhbkidbaaGreat
end
section
open Go Go.RowKit Go.WideShapes Go.ChangeShapes Go.Deep
namespace Go.Proofs.YtgjnjhhhbkidbaaGreat
section
variable {H : Type} {enc : TypeId × Value → H} {P : Program} {w : World}
theorem wf_u8 {z : Int} (h : (Lit.int .u8 z).wf = true) : 0 ≤ z ∧ z < 256 := by
  simpa [Lit.wf, IntKind.min, IntKind.max, IntKind.signed, IntKind.bits, Int.le_iff_lt_add_one] using h
end
end Go.Proofs.YtgjnjhhhbkidbaaGreat
end
section
open Go Go.RowKit Go.WideShapes Go.ChangeShapes Go.Deep
namespace Go.Proofs.YtgjnjhhhbkidbaaGreat
end Go.Proofs.YtgjnjhhhbkidbaaGreat
end
section
open Go Go.RowKit Go.WideShapes Go.ChangeShapes Go.Deep
namespace Go.Proofs.YtgjnjhhhbkidbaaGreat
def byteOf : Value → UInt8
  | .int _ z => UInt8.ofNat z.toNat
  | _ => 0
theorem bs_byteOf (l : List Value) (h : ∀ v ∈ l, ∃ z : Int, v = .int .u8 z ∧ 0 ≤ z ∧ z < 256) : bs (l.map byteOf) = l := by
  induction l with
  | nil => rfl
  | cons v l ih =>
    obtain ⟨z, rfl, h1, h2⟩ := h v (by simp)
    have := ih (fun v hv => h v (by simp [hv]))
    unfold bs at *
    rw [List.map_cons, List.map_cons, this]
    congr 1
    simp only [byteOf, u8v]
    congr 1
    simp
    omega
end Go.Proofs.YtgjnjhhhbkidbaaGreat
end
section
open Go Go.RowKit Go.WideShapes Go.ChangeShapes Go.Deep
namespace Go.Proofs.YtgjnjhhhbkidbaaGreat
/-- every value of the type that can be read is such a row of cells -/
def ReadsAs (P : Program) (α : Type) [RowC α] (t : TypeId) : Prop :=
  ∀ (H : Type) (enc : TypeId × Value → H) (w : World) (base : Nat) (spare : Nat → Bool) (held : Bool) (fuel : Nat) (cs : List Value) (x : DataW H × List MemPlace), DataW.trod enc P w base spare held fuel t cs = some x → ∃ a : α, cs = RowC.enc a
theorem reads_hash {P : Program} {t e : TypeId} (ht : P.underlying t = some (.array 32 e)) (he : P.underlying e = some (.int .u8)) (ce : P.cellsOf e = 1) (ct : P.cellsOf t = 32) : ReadsAs P H32 t := by
  intro H enc w base spare held fuel cs x hf
  obtain ⟨xs, m, rfl, _, hl, hxl, hel⟩ := DataW.trod_array ht hf
  rw [ct] at hl
  have hb : ∀ v ∈ cs, ∃ z : Int, v = .int .u8 z ∧ 0 ≤ z ∧ z < 256 := by
    intro v hv
    obtain ⟨i, hi, rfl⟩ := List.mem_iff_getElem.1 hv
    have h1 := hel i (by omega)
    rw [ce, Nat.mul_one, List.getElem?_eq_getElem (by omega)] at h1
    obtain ⟨z, h3, _, h4⟩ := DataW.trod_int he h1
    have h5 : (cs.drop i).take 1 = [cs[i]] := by
      rw [List.drop_eq_getElem_cons hi]
      rfl
    rw [h5] at h3
    injection h3 with h3 _
    obtain ⟨h6, h7⟩ := wf_u8 h4
    exact ⟨z, h3, h6, h7⟩
  exact ⟨⟨cs.map byteOf, by rw [List.length_map]; exact hl⟩, (bs_byteOf _ hb).symm⟩
theorem cells_get {w : World} {a : Addr} {n : Nat} {cs : List Value} (h : w.cells? 0 a n = some cs) (j : Nat) (u : Value) (hj : cs[j]? = some u) : w.cell? (a.add j) = some u := by
  obtain ⟨_, h1, h2⟩ := World.cells?_some h
  rw [h2 j (by rw [← h1]; exact (List.getElem?_eq_some_iff.1 hj).1)]
  exact hj
end Go.Proofs.YtgjnjhhhbkidbaaGreat
end
section
open Go Go.RowKit Go.WideShapes Go.ChangeShapes Go.Deep
namespace Go.Proofs.YtgjnjhhhbkidbaaGreat
end Go.Proofs.YtgjnjhhhbkidbaaGreat
end
section
open Go Go.RowKit Go.WideShapes Go.ChangeShapes Go.Deep
namespace Go.Proofs.YtgjnjhhhbkidbaaGreat
/-- every value of the type that can be read in this world is such a row of cells, and p holds of it -/
def ReadsP (P : Program) (w : World) (α : Type) [RowC α] (p : α → Prop) (t : TypeId) : Prop :=
  ∀ (H : Type) (enc : TypeId × Value → H) (spare : Nat → Bool) (held : Bool) (fuel : Nat) (cs : List Value) (x : DataW H × List MemPlace), DataW.trod enc P w 0 spare held fuel t cs = some x → ∃ a : α, cs = RowC.enc a ∧ p a
theorem rows_trodP {α : Type} [RowC α] {p : α → Prop} {H : Type} {enc : TypeId × Value → H} {P : Program} {w : World} {spare : Nat → Bool} {held : Bool} {fuel : Nat} {t e : TypeId} {cs : List Value} {x : DataW H × List MemPlace} (ht : P.underlying t = some (.slice e)) (hc : P.cellsOf e = RowC.size α) (hp : 0 < RowC.size α) (hr : ReadsP P w α p e)
    (hf : DataW.trod enc P w 0 spare held fuel t cs = some x) :
    ∃ (A : Option Addr) (n c : Nat) (l : List α), cs = [.slice A n c] ∧ l.length = n ∧ n ≤ maxLen ∧ Rd w A (cellsOf l) ∧ n ≤ c ∧ (∀ b ∈ l, p b) ∧ ((∀ y ∈ x.1.weights P t, y ≤ reachBytes) → n * P.bytesOf e ≤ reachBytes) := by
  rcases DataW.trod_slice ht hf with ⟨hcs, _⟩ | ⟨a, n, cap, elems, rest, m, _, hcs, hx, _, hlc, hcm, hel, hrow, _⟩
  · exact ⟨_, _, _, [], hcs, rfl, by simp, Rd.nil _ _, Nat.le_refl _, (fun b hb => by cases hb), (fun _ => by simp)⟩
  · have hone : ∀ i, i < n → ∃ b : α, w.cells? 0 (a.add (i * RowC.size α)) (RowC.size α) = some (RowC.enc b) ∧ p b := fun i hi => by
      have h1 := hrow i hi
      rw [hc, List.getElem?_eq_getElem (by omega)] at h1
      obtain ⟨cs, h2, h3⟩ := Option.bind_eq_some_iff.1 h1
      obtain ⟨b, rfl, hb⟩ := hr _ _ _ _ _ _ _ h3
      exact ⟨b, h2, hb⟩
    obtain ⟨F, hF⟩ : ∃ F : Nat → α, ∀ i, i < n → w.cells? 0 (a.add (i * RowC.size α)) (RowC.size α) = some (RowC.enc (F i)) ∧ p (F i) :=
      ⟨fun i => if h : i < n then Classical.choose (hone i h) else RowC.zero, fun i hi => by simp only [dif_pos hi]; exact Classical.choose_spec (hone i hi)⟩
    refine ⟨_, _, _, (List.range n).map F, hcs, by simp, by omega, fun k u hk => ⟨a, rfl, ?_⟩, hlc, fun b hb => ?_, fun hw => ?_⟩
    · have hlen : k < n * RowC.size α := by
        have := (List.getElem?_eq_some_iff.1 hk).1
        rwa [cellsOf_len, List.length_map, List.length_range] at this
      have hi : k / RowC.size α < n := (Nat.div_lt_iff_lt_mul hp).2 hlen
      have hj : k % RowC.size α < RowC.size α := Nat.mod_lt _ hp
      have hat := cellsOf_at ((List.range n).map F) (k / RowC.size α) (by simpa using hi)
      have hget : ((List.range n).map F).getD (k / RowC.size α) RowC.zero = F (k / RowC.size α) := by simp [List.getD_eq_getElem?_getD, hi]
      rw [hget] at hat
      have hk2 : (RowC.enc (F (k / RowC.size α)))[k % RowC.size α]? = some u := by
        rw [← hat, List.getElem?_take, if_pos hj, List.getElem?_drop, Nat.mul_comm, Nat.div_add_mod]
        exact hk
      have hcl := cells_get (hF _ hi).1 _ _ hk2
      rw [add_of_add, Nat.mul_comm, Nat.div_add_mod] at hcl
      exact hcl
    · obtain ⟨i, hi, rfl⟩ := List.mem_map.1 hb
      exact (hF i (List.mem_range.1 hi)).2
    · subst hx
      have h5 := hw ((elems.length + rest.length) * P.bytesOf e) (by simp [DataW.weights, ht])
      exact Nat.le_trans (Nat.mul_le_mul_right _ (by omega)) h5
theorem open_rowsP {α : Type} [RowC α] {p : α → Prop} {H : Type} {enc : TypeId × Value → H} {P : Program} {w : World} {r : Reach} {b0 : Nat} {t e : TypeId} {v : Value} {d : DataW H} {ps : List MemPlace} (ht : P.underlying t = some (.slice e)) (hc : P.cellsOf e = RowC.size α) (hp : 0 < RowC.size α) (hr : ReadsP P w α p e)
    (hval : Value.okWide P w r b0 t v) (h : DataW.Trod enc P w 0 (fun _ => true) true t v d ps) :
    ∃ (A : Option Addr) (n c : Nat) (l : List α), v = .slice A n c ∧ l.length = n ∧ n ≤ maxLen ∧ Rd w A (cellsOf l) ∧ n ≤ c ∧ (∀ b ∈ l, p b) ∧ ((∀ y ∈ d.weights P t, y ≤ reachBytes) → n * P.bytesOf e ≤ reachBytes) := by
  obtain ⟨A, n, c, rfl⟩ := okWide_slice ht hval
  obtain ⟨fuel, hf⟩ := h
  obtain ⟨A', n', c', l, h1, h2, h3, h4, h5, h6, h7⟩ := rows_trodP ht hc hp hr hf
  have h1' : (Value.slice A n c) = .slice A' n' c' := by
    have : [Value.slice A n c] = [.slice A' n' c'] := h1
    injection this
  exact ⟨A', n', c', l, h1', h2, h3, h4, h5, h6, h7⟩
theorem seg {α : Type} (cs : List α) (a b c : Nat) (h : a + b = c) : cs.drop a = (cs.drop a).take b ++ cs.drop c := by
  rw [← h, ← List.drop_drop, List.take_append_drop]
theorem seg_last {α : Type} (cs : List α) (a b : Nat) (h : cs.length = a + b) : cs.drop a = (cs.drop a).take b := by
  rw [List.take_of_length_le]
  rw [List.length_drop]
  omega
end Go.Proofs.YtgjnjhhhbkidbaaGreat
end
section
open Go Go.RowKit Go.WideShapes Go.ChangeShapes Go.Deep
namespace Go.Proofs.YtgjnjhhhbkidbaaGreat
/-- every value of the type that can be read in this world is such a row of cells, p holds of it, and q where its weights are within reach -/
def ReadsQ (P : Program) (w : World) (α : Type) [RowC α] (p q : α → Prop) (t : TypeId) : Prop :=
  ∀ (H : Type) (enc : TypeId × Value → H) (spare : Nat → Bool) (held : Bool) (fuel : Nat) (cs : List Value) (x : DataW H × List MemPlace), DataW.trod enc P w 0 spare held fuel t cs = some x → ∃ a : α, cs = RowC.enc a ∧ p a ∧ ((∀ y ∈ x.1.weights P t, y ≤ reachBytes) → q a)
instance iOpens_1 : RowC Row := ⟨1, fun r => [r.v], fun _ => rfl, fun r u hu => by
    rw [List.mem_singleton.1 hu]
    rfl, ⟨none, 0, []⟩⟩
instance (priority := 600) RowC.byte : RowC UInt8 := ⟨1, fun b => [u8v b], fun _ => rfl, fun b u hu => by
    rw [List.mem_singleton.1 hu]
    rfl, 0⟩
/-- a row of bytes that can be read -/
def RowIn (w : World) (r : Row) : Prop := Rd w r.A (bs r.p) ∧ r.p.length ≤ maxLen ∧ r.p.length ≤ r.c
end Go.Proofs.YtgjnjhhhbkidbaaGreat
end
end
section
open Go Go.RowKit Go.WideShapes Go.ChangeShapes Go.Deep
namespace Go.Proofs.YtgjnjhhhbkidbaaGreat
theorem cIW : Tryz.prog.cellsOf 3 = 1 := by kernel_rfl
theorem cHW : Tryz.prog.cellsOf 23 = 32 := by kernel_rfl
theorem cUW : Tryz.prog.cellsOf 5 = 1 := by kernel_rfl
theorem cSW : Tryz.prog.cellsOf 9 = 1 := by kernel_rfl
theorem readsHashW : ReadsAs Tryz.prog H32 23 := reads_hash Tryz.underlying23 Tryz.underlying5 cUW cHW
end Go.Proofs.YtgjnjhhhbkidbaaGreat
end
section
open Go Go.RowKit Go.WideShapes Go.ChangeShapes Go.Deep
namespace Go.Proofs.YtgjnjhhhbkidbaaGreat
theorem trod_fieldsR {H : Type} {enc : TypeId × Value → H} {P : Program} {w : World} {spare : Nat → Bool} {held : Bool} {fuel : Nat} {t : TypeId} {cs : List Value} {x : DataW H × List MemPlace} {fs : Array Field} (ht : P.underlying t = some (.struct fs)) (hf : DataW.trod enc P w 0 spare held fuel t cs = some x) :
    ∃ m, cs.length = P.cellsOf t ∧ ∀ (i : Nat) (f : Field), nth fs.toList i = some f → ∃ y, DataW.trod enc P w 0 spare held m f.type ((cs.drop f.offset).take (P.cellsOf f.type)) = some y ∧ ∀ u ∈ y.1.weights P f.type, u ∈ x.1.weights P t := by
  obtain ⟨xs, m, _, hx, hl, hxl, hel⟩ := DataW.trod_struct ht hf
  refine ⟨m, hl, fun i f hi => ?_⟩
  rw [← nth_get] at hi
  have hi' : fs[i]? = some f := by simpa using hi
  have hlt : i < xs.length := by
    rw [hxl]
    exact (Array.getElem?_eq_some_iff.1 hi').1
  refine ⟨xs[i], by rw [hel i f hi', List.getElem?_eq_getElem hlt], fun u hu => ?_⟩
  rw [hx]
  simp only [DataW.weights, ht]
  exact DataW.weights_mem_each (j := i) (t := f.type) (by rw [List.getElem?_map, hi]; rfl) (by rw [List.getElem?_map, List.getElem?_eq_getElem hlt]; rfl) u hu
/-- what is told of keys that are read -/
structure KIn0 (w : World) (k : KR) : Prop where
  rd : Rd w k.A (cellsOf k.l)
  len : k.l.length = k.n
  cap : k.n ≤ k.c
end Go.Proofs.YtgjnjhhhbkidbaaGreat
end
section
open Go Go.RowKit Go.WideShapes Go.ChangeShapes Go.Deep
namespace Go.Proofs.YtgjnjhhhbkidbaaGreat
theorem strL_eta (s : ByteArray) : s = strL s.data.toList := by
  cases s
  simp [strL]
end Go.Proofs.YtgjnjhhhbkidbaaGreat
end
section
open Go Go.RowKit Go.WideShapes Go.ChangeShapes Go.Deep
namespace Go.Proofs.YtgjnjhhhbkidbaaGreat
theorem cTgW : Tryz.prog.cellsOf 42 = 37 := by kernel_rfl
end Go.Proofs.YtgjnjhhhbkidbaaGreat
end
section
open Go Go.RowKit Go.WideShapes Go.ChangeShapes Go.Deep
namespace Go.Proofs.YtgjnjhhhbkidbaaGreat
def TgLens (t : TargetR) : Prop := t.l.length ≤ maxLen ∧ t.hw.length ≤ maxLen ∧ t.ecu.length ≤ maxLen
theorem strLen (s : ByteArray) (h : s.size ≤ maxLen) : s.data.toList.length ≤ maxLen := by
  rw [Array.length_toList]
  exact h
set_option maxRecDepth 100000 in
theorem readsP_target (w : World) : ReadsP Tryz.prog w TargetR TgLens 42 := fun H enc spare held fuel cs x hf => by
  obtain ⟨m0, hl, E⟩ := trod_fieldsR Tryz.underlying42 hf
  obtain ⟨y0, e0, _⟩ := E 0 _ rfl
  obtain ⟨y1, e1, _⟩ := E 1 _ rfl
  obtain ⟨y2, e2, _⟩ := E 2 _ rfl
  obtain ⟨y3, e3, _⟩ := E 3 _ rfl
  obtain ⟨y4, e4, _⟩ := E 4 _ rfl
  obtain ⟨y5, e5, _⟩ := E 5 _ rfl
  dsimp only at e0 e1 e2 e3 e4 e5
  rw [cSW] at e0 e3 e5
  rw [cHW] at e2
  rw [cIW] at e1 e4
  rw [cTgW] at hl
  obtain ⟨s0, g0, _, hs0⟩ := DataW.trod_string Tryz.underlying9 e0
  obtain ⟨z1, g1, _, _⟩ := DataW.trod_int Tryz.underlying3 e1
  obtain ⟨hh, g2⟩ := readsHashW _ _ _ _ _ _ _ _ _ e2
  obtain ⟨s3, g3, _, hs3⟩ := DataW.trod_string Tryz.underlying9 e3
  obtain ⟨z4, g4, _, _⟩ := DataW.trod_int Tryz.underlying3 e4
  obtain ⟨s5, g5, _, hs5⟩ := DataW.trod_string Tryz.underlying9 e5
  refine ⟨⟨s0.data.toList, z1, hh, s3.data.toList, z4, s5.data.toList⟩, ?_, strLen _ hs0, strLen _ hs3, strLen _ hs5⟩
  have q : cs = cs.drop 0 := rfl
  rw [q, seg cs 0 1 1 rfl, seg cs 1 1 2 rfl, seg cs 2 32 34 rfl, seg cs 34 1 35 rfl, seg cs 35 1 36 rfl, seg_last cs 36 1 hl, g0, g1, g2, g3, g4, g5]
  show _ = Value.string (strL s0.data.toList) :: .int .i64 z1 :: (bs hh.l ++ [.string (strL s3.data.toList), .int .i64 z4, .string (strL s5.data.toList)])
  rw [← strL_eta, ← strL_eta, ← strL_eta]
  rfl
def DlLens (w : World) (d : DeleR) : Prop := d.l.length ≤ maxLen ∧ d.pre.length ≤ maxLen ∧ KIn0 w d.k
end Go.Proofs.YtgjnjhhhbkidbaaGreat
end
section
open Go Go.RowKit Go.WideShapes Go.ChangeShapes Go.Deep
namespace Go.Proofs.YtgjnjhhhbkidbaaGreat
theorem cAcR : Tryz.prog.cellsOf 50 = 40 := by kernel_rfl
set_option maxRecDepth 100000 in
theorem readsP_ac (w : World) : ReadsP Tryz.prog w AcR (fun _ => True) 50 := fun H enc spare held fuel cs x hf => by
  obtain ⟨m0, hl, E⟩ := trod_fieldsR Tryz.underlying50 hf
  obtain ⟨y0, e0, _⟩ := E 0 _ rfl
  obtain ⟨y1, e1, _⟩ := E 1 _ rfl
  obtain ⟨y2, e2, _⟩ := E 2 _ rfl
  obtain ⟨y3, e3, _⟩ := E 3 _ rfl
  dsimp only at e0 e1 e2 e3
  rw [cIW] at e0 e2 e3
  rw [cTgW] at e1
  rw [cAcR] at hl
  obtain ⟨z0, g0, _, _⟩ := DataW.trod_int Tryz.underlying3 e0
  obtain ⟨t, g1, _⟩ := readsP_target w _ _ _ _ _ _ _ e1
  obtain ⟨z2, g2, _, _⟩ := DataW.trod_int Tryz.underlying3 e2
  obtain ⟨z3, g3, _, _⟩ := DataW.trod_int Tryz.underlying3 e3
  refine ⟨⟨z0, t, z2, z3⟩, ?_, trivial⟩
  have q : cs = cs.drop 0 := rfl
  rw [q, seg cs 0 1 1 rfl, seg cs 1 37 38 rfl, seg cs 38 1 39 rfl, seg_last cs 39 1 hl, g0, g1, g2, g3]
  show _ = Value.int .i64 z0 :: (RowC.enc t ++ [.int .i64 z2, .int .i64 z3])
  simp
end Go.Proofs.YtgjnjhhhbkidbaaGreat
end
section
open Go Go.RowKit
namespace Go.Proofs.YtgjnjhhhbkidbaaGreat
theorem ownK : ownKnob Tryz.prog.godebug = none := by kernel_rfl
theorem laidOutP : laidOutB Tryz.prog = true := by kernel_rfl
end Go.Proofs.YtgjnjhhhbkidbaaGreat
end
