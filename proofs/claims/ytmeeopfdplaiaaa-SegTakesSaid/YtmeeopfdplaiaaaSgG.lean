/- seg.Split. -/
import Derived.Test.YtmeeopfdplaiaaaSgF
open Go Go.RowKit
namespace Go.Proofs.Ytmeeopfdplaiaaa
def FIds (id : Int) (l : List FR) : Prop := ∀ f ∈ l, f.id = id
set_option maxRecDepth 100000 in
set_option maxHeartbeats 400000 in
theorem split1_calls (id : Int) {A : Option Addr} {n c : Nat} {m : List UInt8} {w : World} [h : HR w A (bs m)] (hn : m.length = n) (h0 : 0 ≤ id) (h1 : id ≤ 2047) (hp : 1 ≤ n) (h7 : n ≤ 7) :
    Calls Try.prog 12 #[.int .i64 id, .slice A n c] w fun e w' => ∃ FA fc, ∃ l : List FR, e = .returned (.tuple #[.slice FA l.length fc, .int .i64 0]) ∧ Step nowhere w w' ∧ HR w' FA (cellsOf l) ∧ HFs w' l ∧ l.map (·.d) = splitS m ∧ FIds id l := by
  have kb1 : ∀ w, (Instr.buildSlice 22 1 #[(0, .int .u8 (bits .or .u8 0 (n : Int)))]).run Try.prog w = .ok (.slice (some ⟨w.heap.size, 0, none⟩) 1 1) (w.alloc (.cells (u8s [b8 (n : Int)]) 5)) := fun w => by
    rw [or0 n (by omega)]
    exact u8_1 (n : Int) (by omega) (by omega) w
  go_enter Try.func12, Try.ntmps12
  go_wp2_with (first | go_skip | ((with_reducible apply (stop_dst (dst := some 31))); (try simp only [Act.put, sA, sB, sC]); ((with_reducible apply (wpl_bslice (dst := some 31))); (exact kb1 _); intro zh wb _ _ _)))
  · exfalso
    rename_i hh
    simp at hh
    omega
  refine (frame_calls (hd := [b8 (n : Int)]) (m := 1) id rfl hn (by omega)).mono ?_
  rintro e w1 ⟨A', c', rfl, _, _, hcap, hA'⟩
  go_wp2_with (first | go_skip | ((with_reducible apply (stop_dst (dst := some 34))); (try simp only [Act.put, sA, sB, sC]); ((with_reducible apply (wpl_bslice (dst := some 34))); (exact run_frames1 _ _ _ _ _); intro zf wb _ _ _)))
  go_ret2
  refine ⟨_, _, [⟨id, A', 1 + n, c', [b8 (n : Int)] ++ m⟩], rfl, stepN, HR.blkL (l := cellsOf [(⟨id, A', 1 + n, c', [b8 (n : Int)] ++ m⟩ : FR)]) inferInstance, ⟨?_⟩, ?_, ?_⟩
  · intro f hf
    rw [List.mem_singleton.1 hf]
    have hr : HR wb A' (bs ([b8 (n : Int)] ++ m)) := inferInstance
    exact ⟨hr.out, by simp; omega, hcap⟩
  · rw [split_one (by omega), hn]
    rfl
  · intro f hf
    rw [List.mem_singleton.1 hf]
theorem frN_eq (m : List UInt8) (k : Nat) : frN m k = [b8 (32 + ((k + 1 : Nat) % 16 : Nat))] ++ (m.drop (6 + 7 * k)).take 7 := rfl
theorem range_snoc (m : List UInt8) (k : Nat) : frF m :: (List.range (k + 1)).map (frN m) = (frF m :: (List.range k).map (frN m)) ++ [frN m k] := by
  rw [List.range_succ, List.map_append]
  rfl
theorem take_min (l : List UInt8) (a b q : Nat) (h : q = min (l.length - a) b) : (l.drop a).take q = (l.drop a).take b := by
  subst h
  rcases Nat.le_total (l.length - a) b with h | h
  · rw [Nat.min_eq_left h, List.take_of_length_le (by simp), List.take_of_length_le (by simpa using h)]
  · rw [Nat.min_eq_right h]
theorem drop_min (l : List UInt8) (a b q : Nat) (h : q = min (l.length - a) b) : (l.drop a).drop q = l.drop (a + b) := by
  subst h
  rw [List.drop_drop]
  rcases Nat.le_total (l.length - a) b with h | h
  · rw [Nat.min_eq_left h, List.drop_of_length_le (by omega), List.drop_of_length_le (by omega)]
  · rw [Nat.min_eq_right h]
set_option maxRecDepth 100000 in
set_option maxHeartbeats 600000 in
theorem split2_calls (id : Int) {A : Option Addr} {n c : Nat} {m : List UInt8} {w : World} [h : HR w A (bs m)] (hn : m.length = n) (hc : n ≤ c) (h0 : 0 ≤ id) (h1 : id ≤ 2047) (h8 : 8 ≤ n) (h6 : n ≤ 600) :
    Calls Try.prog 12 #[.int .i64 id, .slice A n c] w fun e w' => ∃ FA fc, ∃ l : List FR, e = .returned (.tuple #[.slice FA l.length fc, .int .i64 0]) ∧ Step nowhere w w' ∧ HR w' FA (cellsOf l) ∧ HFs w' l ∧ l.map (·.d) = splitS m ∧ FIds id l := by
  have n1 : ¬ (n : Int) ≤ 7 := by omega
  have n2 : ¬ (n : Int) = 0 := by omega
  have kb2 : ∀ w, (Instr.buildSlice 22 2 #[(0, .int .u8 (bits .or .u8 16 ((n : Int) / 256))), (1, .int .u8 ((n : Int) % 256))]).run Try.prog w = .ok (.slice (some ⟨w.heap.size, 0, none⟩) 2 2) (w.alloc (.cells (u8s [b8 (16 + ((n / 256 : Nat) : Int)), b8 (n : Int)]) 5)) := fun w => by
    rw [show (n : Int) / 256 = ((n / 256 : Nat) : Int) by omega, or16 (n / 256) (by omega), ← b8_mod n]
    exact u8_2 _ _ (by omega) (by omega) (by omega) (by omega) w
  go_enter Try.func12, Try.ntmps12
  go_wp2_with (first | go_skip | ((with_reducible apply (stop_dst (dst := some 44))); (try simp only [Act.put, sA, sB, sC]); ((with_reducible apply (wpl_bslice (dst := some 44))); (exact kb2 _); intro zh wb _ _ _)))
  · exfalso
    rename_i hh
    simp at hh
    omega
  refine (frame_calls (hd := [b8 (16 + ((n / 256 : Nat) : Int)), b8 (n : Int)]) (xs := m.take 6) (m := 2) (n := 6) id (h := HR.takeB (w := wb) (A := A) (xs := m) inferInstance 6) rfl (by simp; omega) (by omega)).mono ?_
  rintro e w1 ⟨A', c', rfl, _, _, hcap, hA'⟩
  have nA : NewA w A' := by
    rcases hA' with rfl | hA'
    · exact inferInstance
    · exact hA'.monoS
  go_wp2_with (first | go_skip | ((with_reducible apply (stop_dst (dst := some 48))); (try simp only [Act.put, sA, sB, sC]); ((with_reducible apply (wpl_bslice (dst := some 48))); (exact run_frames1 _ _ _ _ _); intro zf wb _ _ _)) | ((with_reducible apply wpl_sl_l); exact rfl; exact rfl; infer_instance; omega))
  obtain ⟨f0, hf0⟩ : ∃ f0 : FR, f0 = ⟨id, A', 2 + 6, c', frF m⟩ := ⟨_, rfl⟩
  have hR0 : HR wb A' (bs ([b8 (16 + ((n / 256 : Nat) : Int)), b8 (n : Int)] ++ m.take 6)) := inferInstance
  have eF : frF m = [b8 (16 + ((n / 256 : Nat) : Int)), b8 (n : Int)] ++ m.take 6 := by rw [frF, hn]; rfl
  have HF0 : HFs wb [f0] := ⟨fun f hf => by
    rw [List.mem_singleton.1 hf, hf0]
    refine ⟨?_, ?_, hcap⟩
    · show Rd wb A' (bs (frF m))
      rw [eF]; exact hR0.out
    · show (frF m).length = 8
      rw [frF_len (by omega)]⟩
  have HO0 : HO wb 40 2 (some ⟨zf, 0, none⟩) 1 1 (cellsOf [f0]) := by
    rw [hf0]
    exact HO.one inferInstance rfl
  have OF0 : OffF (rowOf (some ⟨zf, 0, none⟩)) [f0] := ⟨fun f hf => by
    rw [List.mem_singleton.1 hf, hf0]
    intro hne ad e ⟨ad', e', hk⟩
    injection e' with e'
    subst e'
    exact (OffR.born w1 zf A' (bs ([b8 (16 + ((n / 256 : Nat) : Int)), b8 (n : Int)] ++ m.take 6))).out (by simp [bs]) ad e hk.symm⟩
  have NF0 : NewA w (some ⟨zf, 0, none⟩) := (inferInstance : NewA w1 (some ⟨zf, 0, none⟩)).monoS
  have ID0 : FIds id [f0] := fun f hf => by rw [List.mem_singleton.1 hf, hf0]
  have D0 : [f0].map (·.d) = frF m :: (List.range 0).map (frN m) := by rw [hf0]; rfl
  have HR6 := HR.cutB (w := w) (A := A) (xs := m) inferInstance hn hc 6
  rw [show cutA A 6 c 1 = Option.map (fun x => ({ block := x.block, off := x.off + 6 } : Addr)) A by
    unfold cutA
    rw [if_neg (by omega)]
    cases A <;> simp [shift, Addr.add]] at HR6
  go_loopw [6, 7] (fun lv rv wr => ∃ (k : Nat) (FA : Option Addr) (fc : Nat) (RA : Option Addr) (rc : Nat) (l : List FR), 7 * k ≤ n ∧ k ≤ 100 ∧ n - (6 + 7 * k) ≤ rc ∧ lv = .slice FA (k + 1) fc ∧ rv = .slice RA (n - (6 + 7 * k)) rc ∧ Step nowhere w wr ∧ HO wr 40 2 FA (k + 1) fc (cellsOf l) ∧ NewA w FA ∧ HFs wr l ∧ OffF (rowOf FA) l ∧ HR w RA (bs (m.drop (6 + 7 * k))) ∧ Hid (l.map (·.d) = frF m :: (List.range k).map (frN m)) ∧ Hid (FIds id l)) (fun lv _ _ => 1000 - lenV lv)
  case atStart => exact ⟨0, _, _, _, _, [f0], by omega, by omega, by omega, rfl, rfl, stepN, HO0, NF0, HF0, OF0, HR6, Lib.hid D0, Lib.hid ID0⟩
  case round =>
    obtain ⟨k, FA, fc, RA, rc, l, hk, hk1, hrc, rfl, rfl, _, _, _, _, _, _, HD, HI⟩ := hrel
    by_cases hlt : 6 + 7 * k < n
    · obtain ⟨q, hq⟩ : ∃ q, min (n - (6 + 7 * k)) 7 = q := ⟨_, rfl⟩
      have hq7 : q ≤ 7 := by omega
      have hqr : q ≤ rc := by omega
      have hqn : q ≤ n - (6 + 7 * k) := by omega
      have HQ := Lib.hid hq
      have HM := Lib.hid (show min ((n - (6 + 7 * k) : Nat) : Int) 7 = (q : Int) by omega)
      clear hq
      have kb3 : ∀ w, (Instr.buildSlice 22 1 #[(0, .int .u8 (bits .or .u8 32 (((k : Int) + 1) % 16)))]).run Try.prog w = .ok (.slice (some ⟨w.heap.size, 0, none⟩) 1 1) (w.alloc (.cells (u8s [b8 (32 + (((k + 1) % 16 : Nat) : Int))]) 5)) := fun w => by
        rw [show ((k : Int) + 1) % 16 = (((k + 1) % 16 : Nat) : Int) by omega, or32 ((k + 1) % 16) (by omega)]
        exact u8_1 _ (by omega) (by omega) w
      go_wp2_with (first | go_skip | ((with_reducible apply (stop_dst (dst := some 64))); (try simp only [Act.put, sA, sB, sC]); ((with_reducible apply (wpl_bslice (dst := some 64))); (exact kb3 _); intro zh3 wb _ _ _)) | ((with_reducible apply wpl_mineq); exact rfl; exact rfl; (exact HM.out)) | ((with_reducible apply wpl_sl_h); exact rfl; exact rfl; infer_instance; omega))
      have HS := Lib.hid (show n - (6 + 7 * k) - q = n - (6 + 7 * (k + 1)) by have := HQ.out; omega)
      have HRr : HR wr RA (bs (m.drop (6 + 7 * k))) := inferInstance
      have t1 : HB wb zh3 5 (u8s [b8 (32 + (((k + 1) % 16 : Nat) : Int))]) := inferInstance
      have t2 : HR wb RA (bs (m.drop (6 + 7 * k))) := inferInstance
      have t3 : HR wb RA (bs ((m.drop (6 + 7 * k)).take q)) := HR.takeB t2 q
      have t4 : ((m.drop (6 + 7 * k)).take q).length = q := by rw [List.length_take, List.length_drop, hn]; omega
      have t5 := frame_calls (w := wb) (g := zh3) (A := RA) (hd := [b8 (32 + (((k + 1) % 16 : Nat) : Int))]) (xs := (m.drop (6 + 7 * k)).take q) (m := 1) (n := q) (c := rc) id (hb := t1) (h := t3) rfl t4 (by omega)
      clear t2 t3 t4
      refine t5.mono ?_
      rintro e w3 ⟨B, b, rfl, _, _, hcapB, hB⟩
      have nB : NewA wr B := by
        rcases hB with rfl | hB
        · exact inferInstance
        · exact hB.monoS
      have eN : frN m k = [b8 (32 + (((k + 1) % 16 : Nat) : Int))] ++ (m.drop (6 + 7 * k)).take q := by
        rw [frN_eq, take_min m (6 + 7 * k) 7 q (by rw [hn]; exact HQ.out.symm)]
      go_wp2_with (first | go_skip | ((with_reducible apply (stop_dst (dst := some 69))); (try simp only [Act.put, sA, sB, sC]); ((with_reducible apply (wpl_bslice (dst := some 69))); (exact run_frames1 _ _ _ _ _); intro zf2 wb _ _ _)) | ((with_reducible apply (wpl_appendF ⟨id, B, 1 + q, b, frN m k⟩)); exact rfl; exact rfl; infer_instance; infer_instance; infer_instance; omega; decide; intro A2 c2 wa _ ho g2 hcap2) | ((with_reducible apply wpl_sl_l); exact rfl; exact rfl; infer_instance; omega))
      rw [HS.out]
      have hRB : HR wa B (bs (frN m k)) := by
        rw [eN]; exact inferInstance
      have hO1 : OffR (rowOf FA) B (bs (frN m k)) := inferInstance
      have hRBb : HR wb B (bs (frN m k)) := by
        rw [eN]; exact inferInstance
      have hO2 : OffR (rowOf A2) B (bs (frN m k)) := OffR.grew g2
      have hF2 : HFs wa (l ++ [⟨id, B, 1 + q, b, frN m k⟩]) := HFs.snoc hRB.out (by
        show (frN m k).length = 1 + q
        rw [frN_len, hn]; have := HQ.out; omega) hcapB
      have hO3 : OffF (rowOf A2) l := OffF.grew g2
      have hO4 : OffF (rowOf A2) (l ++ [⟨id, B, 1 + q, b, frN m k⟩]) := OffF.snoc hO2.out
      have hRR : HR w (cutA RA q rc 1) (bs (m.drop (6 + 7 * (k + 1)))) := by
        have := HR.cutB (w := w) (A := RA) (xs := m.drop (6 + 7 * k)) inferInstance (by rw [List.length_drop, hn]) hrc q
        rw [drop_min m (6 + 7 * k) 7 q (by rw [hn]; exact HQ.out.symm)] at this
        exact this
      refine ⟨⟨k + 1, A2, c2, _, _, _, by omega, by omega, ?_, rfl, rfl, stepN, ho, inferInstance, hF2, hO4, hRR, Lib.hid ?_, Lib.hid ?_⟩, ?_⟩
      · have := HQ.out; omega
      · rw [List.map_append, HD.out, range_snoc]
        rfl
      · intro f hf
        rcases List.mem_append.1 hf with hf | hf
        · exact HI.out f hf
        · rw [List.mem_singleton.1 hf]
      · show 1000 - (k + 1 + 1) < 1000 - (k + 1)
        omega
    · go_wp2_with fail
      go_ret2
      refine ⟨FA, fc, l, ?_, stepN, inferInstance, inferInstance, ?_, HI.out⟩
      · have hll : l.length = k + 1 := by
          have := congrArg List.length HD.out
          simpa using this
        rw [hll]
        rfl
      · rw [HD.out, splitS, if_neg (by omega), hn, show cntN n = k by unfold cntN; omega]
/-- what Split answers -/
def SplitPost (id : Int) (m : List UInt8) (w : World) (e : Ending) (w' : World) : Prop :=
  ∃ FA fc, ∃ l : List FR, e = .returned (.tuple #[.slice FA l.length fc, .int .i64 0]) ∧ Step nowhere w w' ∧ HR w' FA (cellsOf l) ∧ HFs w' l ∧ l.map (·.d) = splitS m ∧ FIds id l
theorem split_calls (id : Int) {A : Option Addr} {n c : Nat} {m : List UInt8} {w : World} [h : HR w A (bs m)] (hn : m.length = n) (hc : n ≤ c) (h0 : 0 ≤ id) (h1 : id ≤ 2047) (hp : 1 ≤ n) (h6 : n ≤ 600) :
    Calls Try.prog 12 #[.int .i64 id, .slice A n c] w (SplitPost id m w) := by
  rcases Nat.lt_or_ge 7 n with h7 | h7
  · exact split2_calls id hn hc h0 h1 h7 h6
  · exact split1_calls id hn h0 h1 hp h7
end Go.Proofs.Ytmeeopfdplaiaaa
