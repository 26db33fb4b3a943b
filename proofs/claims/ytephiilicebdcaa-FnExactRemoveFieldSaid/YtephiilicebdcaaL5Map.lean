/-
  Maps of names to numbers as things a walk owns: made, written, read, struck; their keys sorted by the library. Conditions: at most 2^40 entries.
-/
import Derived.Test.YtephiilicebdcaaL5Gm
import Derived.Test.YtephiilicebdcaaIter
import Derived.Maps.OwnSet
import Derived.Maps.Ext
import Derived.Sort.KeysCollected
import Derived.Sort.Walk0
namespace Go.Proofs.Ytephiilicebdcaa.L5
set_option maxRecDepth 100000
open Go.Op (bytesLess)
open L4 (less_irrefl less_total less_asymm less_trans)
open L4 (boxR push_box box_at)
open Go.ChangeShapes Go.WideShapes Go.ChangeAt Go.RowKit Mem Sl Ex L2 Sv
set_option linter.unusedVariables false
set_option linter.unusedSimpArgs false

theorem keyS : Maps.Keyed Try.prog 9 := Maps.string_keyed Try.underlying9
theorem zeroI (w : World) : (zeroValue 3).run Try.prog w = .ok (.int .i64 0) w := by kernel_rfl
/-- What a map's datum says at each name. -/
def Says (D : DataW Unit) (g : List UInt8 → Option Int) : Prop := (∀ s, Maps.has D (.string s) = (g s).isSome) ∧ ∀ s zd, D.atKey (.string s) zd = ((g s).map fun x => DataW.lit (.int .i64 x)).getD zd
/-- Block b is a map of at most n entries that holds g. -/
def MapIs (w : World) (b n : Nat) (g : List UInt8 → Option Int) : Prop := ∃ D : DataW Unit, w.ownsMap Try.prog 9 (plainElem Try.prog 3) b n D ∧ Says D g
theorem MapIs.lt {w : World} {b n : Nat} {g : List UInt8 → Option Int} (h : MapIs w b n g) : b < w.heap.size := by
  obtain ⟨D, h, _⟩ := h
  exact h.lt
theorem MapIs.at_ {w w' : World} {b n : Nat} {g : List UInt8 → Option Int} (h : MapIs w b n g) (hb : w'.heap[b]? = w.heap[b]?) : MapIs w' b n g := by
  obtain ⟨D, ⟨es, clock, h1, h2⟩, h3⟩ := h
  exact ⟨D, ⟨es, clock, hb.trans h1, h2⟩, h3⟩
theorem MapIs.made (w : World) (b : Nat) (hb : b = w.heap.size) : MapIs (w.alloc (.map #[] 0)) b 0 (fun _ => none) := by
  subst hb
  exact ⟨.map [], World.ownsMap_made w _ _ _, fun s => rfl, fun s zd => rfl⟩
theorem Says.put {D : DataW Unit} {g : List UInt8 → Option Int} (h : Says D g) (hD : Maps.IsMap D) (s : List UInt8) (x : Int) : Says (D.put (.string s) (.lit (.int .i64 x))) (upd g s x) := by
  constructor
  · intro t
    unfold upd
    by_cases e : t = s
    · subst e
      rw [Maps.has_put_same hD (by trivial), if_pos rfl]; rfl
    · rw [Maps.has_put_other (fun h => e (by injection h)), if_neg e, h.1]
  · intro t zd
    unfold upd
    by_cases e : t = s
    · subst e
      rw [Maps.atKey_put_same hD (by trivial), if_pos rfl]; rfl
    · rw [Maps.atKey_put_other (fun h => e (by injection h)), if_neg e, h.2]
theorem Says.del {D : DataW Unit} {g : List UInt8 → Option Int} (h : Says D g) (s : List UInt8) : Says (D.del (.string s)) (era g s) := by
  constructor
  · intro t
    unfold era
    by_cases e : t = s
    · subst e
      rw [Maps.has_del_same, if_pos rfl]; rfl
    · rw [Maps.has_del_other (fun h => e (by injection h)), if_neg e, h.1]
  · intro t zd
    unfold era
    by_cases e : t = s
    · subst e
      rw [Maps.atKey_del_same, if_pos rfl]; rfl
    · rw [Maps.atKey_del_other (fun h => e (by injection h)), if_neg e, h.2]

/-- Such a map as a thing. -/
def mapR (b n : Nat) (g : List UInt8 → Option Int) : Res where
  fp := [b]
  is w := MapIs w b n g
  loc := fun hs h => h.at_ (hs b (by simp))
theorem push_map {W w w' : World} {rs : List Res} {b n : Nat} {g : List UInt8 → Option Int} (h : Sep W w rs) (hb : Below w.heap.size w w') (hm : MapIs w' b n g) (hl : w.heap.size ≤ b) : Sep W w' (rs ++ [mapR b n g]) :=
  h.push hb hm fun k hk => by
    simp [mapR] at hk
    subst hk
    exact ⟨hl, hm.lt⟩
theorem map_at {W w : World} {rs : List Res} {b n : Nat} {g : List UInt8 → Option Int} (h : Sep W w rs) (i : Nat) (hi : rs[i]? = some (mapR b n g)) : MapIs w b n g := h.is i _ hi
theorem new_map {W w : World} {rs : List Res} (h : Sep W w rs) (b : Nat) (hb : b = w.heap.size) : Sep W (w.alloc (.map #[] 0)) (rs ++ [mapR b 0 fun _ => none]) :=
  push_map h ((Below.refl _ _).alloc (Nat.le_refl _) _) (MapIs.made w b hb) (by omega)

theorem run_makeMap_hint (t k e : TypeId) (kd : IntKind) (n : Int) (ht : Try.prog.underlying t = some (.map k e)) (w : World) :
    (Instr.makeMap t (some (.int kd n))).run Try.prog w = .ok (.map (some w.heap.size)) (w.alloc (.map #[] 0)) := by
  simp [Instr.makeMap, run_underlying ht]; rfl

/-! ### at the operation -/
section
variable {W w : World} {rs : List Res} {ops : Array Oper} {rest : List Oper} {o : Oper} {a : Act} {Q : Exit → Act → World → Prop} {b n : Nat} {g : List UInt8 → Option Int}
theorem wpList_mapUpdate_s (S : Sep W w rs) (i : Nat) (hi : rs[i]? = some (mapR b n g)) (hg : o.guard = none) (m x v : Operand) (hop : o.op = Op.mapUpdate 60 m x v)
    (hm : a.eval m = .map (some b)) (hn : n < maxLen) (s : ByteArray) (y : Int) (hx : a.eval x = .string s) (hv : a.eval v = .int .i64 y) (hs : s.size ≤ maxLen) (hy : (Lit.int .i64 y).wf = true)
    (hK : ∀ w', Sep W w' (rs.set i (mapR b (n + 1) (upd g s.data.toList y))) → wpList Try.prog ops Q rest (a.put o.dst undef) w') : wpList Try.prog ops Q (o :: rest) a w := by
  obtain ⟨D, hown, hsay⟩ := map_at S i hi
  refine wpList_mapUpdate_own w hg m x v 60 hop 9 3 keyS Try.underlying60 _ b n D hm hown hn _ _ (.string s.data.toList) hx hv (Go.WideMaps.keyOf_string_mk Try.underlying9 hs) _ [] (plainElem_int Try.underlying3 hy) ?_
  intro w' h1 h2
  exact hK w' (S.put i hi (Turned.of_grown h2) ⟨_, h1, hsay.put hown.isMap _ _⟩ fun k hk => hk)
theorem look_val {D : DataW Unit} (hsay : Says D g) {s : List UInt8} {c : Int} (h : D.atKey (.string s) (.lit (.int .i64 0)) = .lit (.int .i64 c)) : c = (g s).getD 0 := by
  rw [hsay.2] at h
  cases hg : g s with
  | none => rw [hg] at h; simp at h; simp [h.symm]
  | some y => rw [hg] at h; simp at h; simp [h.symm]
theorem wpList_lookup_s (hM : MapIs w b n g) (hg : o.guard = none) (m x : Operand) (hop : o.op = Op.lookup 60 m x false) (hm : a.eval m = .map (some b)) (s : ByteArray) (hx : a.eval x = .string s) (hs : s.size ≤ maxLen) (y : Int) (hy : (g s.data.toList).getD 0 = y)
    (hK : wpList Try.prog ops Q rest (a.put o.dst (.int .i64 y)) w) : wpList Try.prog ops Q (o :: rest) a w := by
  obtain ⟨D, hown, hsay⟩ := hM
  refine wpList_lookup_own_int w hg m x 60 hop 9 3 .i64 keyS Try.underlying60 Try.underlying3 (zeroI _) b n D hm hown _ (.string s.data.toList) hx (Go.WideMaps.keyOf_string_mk Try.underlying9 hs) ?_
  intro c h1 _
  rw [look_val hsay h1, hy]
  exact hK
theorem wpList_lookup_ok_s (hM : MapIs w b n g) (hg : o.guard = none) (m x : Operand) (hop : o.op = Op.lookup 60 m x true) (hm : a.eval m = .map (some b)) (s : ByteArray) (hx : a.eval x = .string s) (hs : s.size ≤ maxLen) (y : Int) (hy : (g s.data.toList).getD 0 = y) (z : Bool) (hz : (g s.data.toList).isSome = z)
    (hK : wpList Try.prog ops Q rest (a.put o.dst (.tuple #[.int .i64 y, .bool z])) w) : wpList Try.prog ops Q (o :: rest) a w := by
  obtain ⟨D, hown, hsay⟩ := hM
  refine wpList_lookup_own_ok_int w hg m x 60 hop 9 3 .i64 keyS Try.underlying60 Try.underlying3 (zeroI _) b n D hm hown _ (.string s.data.toList) hx (Go.WideMaps.keyOf_string_mk Try.underlying9 hs) ?_
  intro c h1 _
  rw [look_val hsay h1, hsay.1, hy, hz]
  exact hK
theorem wpList_delete_s (S : Sep W w rs) (i : Nat) (hi : rs[i]? = some (mapR b n g)) (hg : o.guard = none) (m x : Operand) (hop : o.op = Op.call { callee := Callee.builtin Builtin.delete, args := #[m, x], argTypes := #[60, 9] })
    (hm : a.eval m = .map (some b)) (s : ByteArray) (hx : a.eval x = .string s) (hs : s.size ≤ maxLen)
    (hK : ∀ w', Sep W w' (rs.set i (mapR b n (era g s.data.toList))) → wpList Try.prog ops Q rest (a.put o.dst (.tuple #[])) w') : wpList Try.prog ops Q (o :: rest) a w := by
  obtain ⟨D, hown, hsay⟩ := map_at S i hi
  refine wpList_delete_own w hg m x 60 9 hop 3 keyS Try.underlying60 _ b n D hm hown _ (.string s.data.toList) hx (Go.WideMaps.keyOf_string_mk Try.underlying9 hs) ?_
  intro w' h1 h2
  exact hK w' (S.put i hi (Turned.of_grown h2.grown) ⟨_, h1, hsay.del _⟩ fun k hk => hk)
end

/-! ### the keys, sorted -/
/-- The names at which g is, in ascending order. -/
def KeysOf (g : List UInt8 → Option Int) (ks : List (List UInt8)) : Prop := ks.Pairwise (fun x y => bytesLess x y = true) ∧ ∀ s, s ∈ ks ↔ (g s).isSome = true
theorem sortsM (m : Nat) : AnyZ.SortsIn Try.prog Try.sortedM_ren Fence.wide m :=
  ⟨fun blk off cap ss W hH hblk hsz => callsIn_wide.2 (AnyM.slices_Sort_string Try.sortM blk off cap ss W hH hblk hsz),
   fun p cap W => callsIn_wide.2 (AnyM.slices_Sort_string_none Try.sortM p cap W)⟩
theorem mapsKeys_any (mb : Option Nat) (W : World) : Calls Try.prog 61 #[.map mb] W fun e w' => e = .returned (.func (.func 82) #[] #[.pointer (some ⟨W.heap.size, 0, none⟩)]) ∧ w' = W.alloc (.cells #[.map mb] 60) :=
  (callsIn_wide (n := 5)).1 (AnyZ.keys_in Try.keysM Fence.wide 5 trivial rfl mb W)
set_option maxHeartbeats 1000000 in
theorem sorted_any (b n : Nat) (g : List UInt8 → Option Int) (w : World) (hM : MapIs w b n g) (hn : n ≤ 1099511627776) :
    Calls Try.prog 60 #[.func (.func 82) #[] #[.pointer (some ⟨w.heap.size, 0, none⟩)]] (w.alloc (.cells #[.map (some b)] 60)) fun e w' => ∃ a c ks, e = .returned (.slice a ks.length c) ∧ KeysOf g ks ∧ ks.length ≤ n ∧
      OwnV w' (w.heap.size + 1) 9 1 a c ks.length (ks.map encStr) ∧ Below (w.heap.size + 1) (w.alloc (.cells #[.map (some b)] 60)) w' := by
  obtain ⟨D0, hown, hsay⟩ := hM
  have hbl := hown.lt
  have hsz := hown.size_le
  have hseq : SeqGives Fence.wide 2 Try.prog 82 #[.pointer (some ⟨w.heap.size, 0, none⟩)] encStr (fun ss => ss.Perm (strKeys D0)) (Maps.size D0) (w.alloc (.cells #[.map (some b)] 60)) :=
    AnyZ.keys_gives (ρ := Try.keysM_ren) { Try.keysM with } Fence.wide _ trivial rfl (by omega) w.heap.size b n D0 _ (by simp) (by simp) (hown.alloc _)
  have key := AnyZ.sorted_in Try.sortedM Fence.wide 5 trivial trivial trivial trivial rfl (by omega) (sortsM _) (enters_of Try.func81 (by kernel_rfl) rfl) 82 #[.pointer (some ⟨w.heap.size, 0, none⟩)] trivial (enters_of Try.func82 (by kernel_rfl) rfl) _ _ (by unfold maxLen; omega) (by omega) _ hseq
  refine ((callsIn_wide (n := 5)).1 key).mono ?_
  rintro e w' ⟨v, ss, rfl, hp, hrow, hnil, hb⟩
  have hhs : (w.alloc (.cells #[.map (some b)] 60)).heap.size = w.heap.size + 1 := by simp
  rw [hhs] at hrow hb
  have hlen : (ss.mergeSort (fun x y => decide (x ≤ y))).length = ss.length := List.length_mergeSort ss
  have hrow' : w'.ownsRow (w.heap.size + 1) 9 1 v (ss.mergeSort (fun x y => decide (x ≤ y))).length ((ss.mergeSort (fun x y => decide (x ≤ y))).map encStr) := by rw [hlen]; exact hrow
  have hkeys : KeysOf g (ss.mergeSort (fun x y => decide (x ≤ y))) := by
    obtain ⟨es, hes, hks⟩ := hown.keysOf
    obtain ⟨es', hes', happ⟩ := hown.tidy keyS
    obtain rfl : es = es' := by rw [hes] at hes'; injection hes'
    have tr : ∀ a b c : List UInt8, decide (a ≤ b) = true → decide (b ≤ c) = true → decide (a ≤ c) = true := fun a b c h1 h2 => by simp only [decide_eq_true_eq] at *; exact List.le_trans h1 h2
    have hto : ∀ a b : List UInt8, (decide (a ≤ b) || decide (b ≤ a)) = true := fun a b => by simp only [Bool.or_eq_true, decide_eq_true_eq]; exact List.le_total a b
    have hstr : ∀ p ∈ es, ∃ x, p.1 = .string x := fun p hp => by
      obtain ⟨v, hv⟩ := hks p hp
      obtain ⟨x, _, hx, _⟩ := Maps.keyOf_str Try.underlying9 hv
      exact ⟨x, hx⟩
    have hperm : (ss.mergeSort (fun x y => decide (x ≤ y))).Perm (es.map fun p => strOf p.1) := by
      refine (List.mergeSort_perm ss _).trans ?_
      rw [hes] at hp
      exact hp
    have hnd : (ss.mergeSort (fun x y => decide (x ≤ y))).Nodup := by
      rw [hperm.nodup_iff]
      refine List.pairwise_map.2 (happ.imp_of_mem fun {p q} hp' hq' hne e => hne ?_)
      obtain ⟨a, ha⟩ := hstr p hp'
      obtain ⟨b, hb⟩ := hstr q hq'
      rw [ha, hb] at e ⊢
      exact congrArg _ e
    constructor
    · have h1 := List.pairwise_mergeSort (le := fun x y => decide (x ≤ y)) tr hto ss
      refine (h1.and hnd).imp fun {x y} h => ?_
      obtain ⟨h1, h2⟩ := h
      rw [bytesLess_eq, decide_eq_true_eq]
      simp only [decide_eq_true_eq] at h1
      exact Decidable.byContradiction fun hn => h2 (List.le_antisymm h1 (List.not_lt.1 hn))
    · intro s
      rw [hperm.mem_iff, ← hsay.1, hes]
      show s ∈ es.map (fun p => strOf p.1) ↔ es.any (fun p => p.1.sameKey (.string s)) = true
      rw [List.mem_map, List.any_eq_true]
      constructor
      · rintro ⟨p, hp, rfl⟩
        obtain ⟨x, hx⟩ := hstr p hp
        refine ⟨p, hp, ?_⟩
        rw [hx]
        exact WideAt.sameKey_self (by trivial)
      · rintro ⟨p, hp, hk⟩
        refine ⟨p, hp, ?_⟩
        rw [WideAt.sameKey_eq hk]
        rfl
  have hle : ss.length ≤ n := by
    have := hp.length_eq
    obtain ⟨es, hes⟩ := hown.isMap
    rw [hes] at this hsz
    have e2 : (strKeys (DataW.map es : DataW Unit)).length = es.length := by show (es.map _).length = _; simp
    have e3 : Maps.size (DataW.map es : DataW Unit) = es.length := rfl
    omega
  obtain ⟨a, c, rfl⟩ : ∃ a c, v = .slice a (ss.mergeSort (fun x y => decide (x ≤ y))).length c := by
    rcases hrow'.2 with ⟨rfl, h0⟩ | ⟨g0, cap, cur, rfl, _⟩
    · exact ⟨none, 0, by rw [h0]⟩
    · exact ⟨_, _, rfl⟩
  exact ⟨a, c, _, rfl, hkeys, by rw [hlen]; exact hle, hrow', hb⟩
/-- The record of a map: its names in order, each with its number. -/
def recOf (g : List UInt8 → Option Int) (ks : List (List UInt8)) : List F := ks.map fun s => ⟨⟨s.toArray⟩, (g s).getD 0⟩
theorem recOf_eq {g : List UInt8 → Option Int} {ks : List (List UInt8)} (hk : KeysOf g ks) {m : List F} (hm : asc m = true) (hg : getO m = g) : recOf g ks = m := by
  refine asc_ext (asc_pair.2 ?_) hm fun s => ?_
  · unfold recOf
    exact List.pairwise_map.2 (hk.1.imp fun h => h)
  · rw [hg]
    have h2 : ∀ l : List (List UInt8), getO (recOf g l) s = if s ∈ l then some ((g s).getD 0) else none := fun l => by
      induction l with
      | nil => rfl
      | cons x r ih =>
        show getO (⟨⟨x.toArray⟩, (g x).getD 0⟩ :: recOf g r) s = _
        rw [getO_cons, ih]
        by_cases e : x = s
        · subst e
          rw [if_pos (show (⟨⟨x.toArray⟩, (g x).getD 0⟩ : F).t = x from rfl), if_pos (by simp)]
        · rw [if_neg (show ¬ (⟨⟨x.toArray⟩, (g x).getD 0⟩ : F).t = s from e)]
          simp [show ¬ s = x from fun h => e h.symm]
    rw [h2]
    by_cases h : s ∈ ks
    · rw [if_pos h]
      have := (hk.2 s).1 h
      cases hs : g s with
      | none => rw [hs] at this; cases this
      | some v => rfl
    · rw [if_neg h]
      cases hs : g s with
      | none => rfl
      | some v => exact absurd ((hk.2 s).2 (by rw [hs]; rfl)) h
end Go.Proofs.Ytephiilicebdcaa.L5
