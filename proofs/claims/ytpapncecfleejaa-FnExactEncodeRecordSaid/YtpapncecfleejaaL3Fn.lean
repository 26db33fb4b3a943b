/-
  The contracts of chapter 3's other functions: BytesToInts, DeriveFromString, IsValidKey, Encrypt, Decrypt, of the specification and of the program. Conditions: the slice reads as a list of at most 2^40 bytes (2^27 where the specification's Encrypt is called).
-/
import Derived.Test.YtpapncecfleejaaL3Hash
import Derived.Test.YtpapncecfleejaaL1Min
import Derived.Test.YtpapncecfleejaaL2Rd2
import Derived.Lib.ConvBytes
namespace Go.Proofs.Ytpapncecfleejaa.L3
set_option maxRecDepth 100000
open Go.ChangeShapes Go.WideShapes Go.ChangeAt Go.RowKit Mem Sl Ex L2
set_option linter.unusedVariables false



/-! ### a string's bytes -/
def strB (s : ByteArray) : List Int := s.data.toList.map fun b => (b.toNat : Int)
theorem strB_length (s : ByteArray) : (strB s).length = s.size := by unfold strB; rw [List.length_map, Array.length_toList]; rfl
theorem strB_byt (s : ByteArray) : Byt (strB s) := by
  intro x hx
  obtain ⟨b, _, rfl⟩ := List.mem_map.1 hx
  have := b.toNat_lt
  exact ⟨by omega, by omega⟩
theorem strB_reads (w : World) (e : TypeId) (s : ByteArray) : Reads (Lib.bytesWorld w e s) (Lib.bytesWorld w e s).heap.size (some ⟨w.heap.size, 0, none⟩) (ints .u8 (strB s)) := fun j hj => by
  have hj' : j < s.size := by rw [ints_length, strB_length] at hj; exact hj
  refine ⟨_, rfl, by rw [Lib.bytesWorld_size]; simp, ?_⟩
  have h1 := Lib.bytesWorld_cell w e s j hj'
  have hj2 : j < s.data.toList.length := by rw [Array.length_toList]; exact hj'
  rw [Addr.add_lit, Nat.zero_add, h1, ints_get _ _ _ (by rw [strB_length]; exact hj')]
  unfold strB
  rw [List.getElem_map, List.getD_eq_getElem?_getD, List.getElem?_eq_getElem hj2]
  rfl
theorem strB_below (w : World) (e : TypeId) (s : ByteArray) : Below w.heap.size w (Lib.bytesWorld w e s) :=
  ⟨rfl, by unfold Lib.bytesWorld World.freeze; rfl, rfl, by rw [Lib.bytesWorld_size]; omega, fun j hj => Lib.bytesWorld_at_old w e s j hj⟩

theorem implMax_b (a b : Int) (w : World) :
    Calls Try.prog 87 #[.int .i64 a, .int .i64 b] w fun e w' => e = .returned (.int .i64 (max a b)) ∧ Below w.heap.size w w' := by
  have hc : (w.alloc (.cells #[.int .i64 b] 3)).cell? ⟨w.heap.size, 0, none⟩ = some (.int .i64 b) := by simp [go_sem]
  go_enter Try.func87, Try.ntmps87
  go_wp2_with (go_at_call 98; refine (L1.extremes_one _ _ _ _ hc).mono ?_; rintro e w' ⟨rfl, rfl⟩)
  go_ret
  exact ⟨rfl, by repeat (first | exact Below.refl _ _ | apply Below.drew | (refine Below.alloc ?_ (Nat.le_refl _) _))⟩
theorem specMax_b (a b : Int) (w : World) :
    Calls Try.prog 88 #[.int .i64 a, .int .i64 b] w fun e w' => e = .returned (.int .i64 (max a b)) ∧ Below w.heap.size w w' :=
  (L1.specMax_any a b w).mono fun _ _ ⟨he, hw⟩ => ⟨he, by rw [← hw]; exact Below.refl _ _⟩
end Go.Proofs.Ytpapncecfleejaa.L3
