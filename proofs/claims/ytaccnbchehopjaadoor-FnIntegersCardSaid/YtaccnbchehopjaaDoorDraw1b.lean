/-
  The contracts of the specification's draws for chapter 1's functions: DrawParseInt, DrawFormatInt, DrawCeilDiv: what they can give, in new memory only. The condition: the code is a slice of bytes of at most 2^62 places.
-/
import Derived.Test.YtaccnbchehopjaaDoorDraw1
import Derived.Test.YtaccnbchehopjaaDoorL1Fmt
namespace Go.Proofs.YtaccnbchehopjaaDoor.Draw
open Go.ChangeShapes Go.WideShapes Go.ChangeAt Go.RowKit Mem

theorem On.below {B c : Nat} {w w1 w' : World} (h : On B c w1 w') (hb : Below w.heap.size w w1) (hc : w.heap.size ≤ c) : Below w.heap.size w w' :=
  hb.grown h.2 hb.size (fun k hk => by cases hk; exact hc)

theorem drawFormatInt_on {B : Nat} {w : World} (a : Option Addr) (len cap : Nat) (hB : B ≤ w.heap.size) (hlen : len ≤ 4611686018427387904) (hby : Bytes w B a len) :
    Calls Tryd.prog 9 #[.slice a len cap] w fun e w' => ∃ n, e = .returned (.int .i64 n) ∧ (-9223372036854775808 ≤ n ∧ n ≤ 9223372036854775807) ∧ Below w.heap.size w w' := by
  have hP : Hid (∀ (c : Nat) (w1 w' : World), On B c w1 w' → Below w.heap.size w w1 → w.heap.size ≤ c → Below w.heap.size w w') := fun c w1 w' h hb hc => h.below hb hc
  go_enter Tryd.func9, Tryd.ntmps9
  go_wp2_with (first | (go_at_call 16; refine (l1New_on _ _ _ hB hlen hby).mono ?_; rintro e w' ⟨c, rfl, hc, hcur, hb⟩; have ho := On.start hcur) | (go_at_call 22; refine (l1One_on (by assumption)).mono ?_; rintro e w' ⟨x, rfl, hx, ho'⟩))
  go_ret
  exact ⟨_, rfl, hx, hP.out _ _ _ ho' hb hc⟩

theorem drawCeilDiv_on {B : Nat} {w : World} (a : Option Addr) (len cap : Nat) (hB : B ≤ w.heap.size) (hlen : len ≤ 4611686018427387904) (hby : Bytes w B a len) :
    Calls Tryd.prog 11 #[.slice a len cap] w fun e w' => ∃ n m, e = .returned (.tuple #[.int .i64 n, .int .i64 m]) ∧ (-9223372036854775808 ≤ n ∧ n ≤ 9223372036854775807) ∧ (-9223372036854775808 ≤ m ∧ m ≤ 9223372036854775807) ∧ Below w.heap.size w w' := by
  have hP : Hid (∀ (c : Nat) (w1 w' : World), On B c w1 w' → Below w.heap.size w w1 → w.heap.size ≤ c → Below w.heap.size w w') := fun c w1 w' h hb hc => h.below hb hc
  go_enter Tryd.func11, Tryd.ntmps11
  go_wp2_with (first | (go_at_call 16; refine (l1New_on _ _ _ hB hlen hby).mono ?_; rintro e w' ⟨c, rfl, hc, hcur, hb⟩; have ho := On.start hcur) | (go_at_call 22; refine (l1One_on (by assumption)).mono ?_; rintro e w' ⟨x, rfl, hx, ho'⟩))
  go_ret2
  exact ⟨_, _, rfl, by assumption, by assumption, hP.out _ _ _ ho' hb hc⟩

theorem drawParseInt_on {B : Nat} {w : World} (a : Option Addr) (len cap : Nat) (hB : B ≤ w.heap.size) (hlen : len ≤ 4611686018427387904) (hby : Bytes w B a len) :
    Calls Tryd.prog 7 #[.slice a len cap] w fun e w' => ∃ s, e = .returned (.string s) ∧ s.size ≤ 30 ∧ Below w.heap.size w w' := by
  have hP : Hid (∀ (c : Nat) (w1 w' : World), On B c w1 w' → Below w.heap.size w w1 → w.heap.size ≤ c → Below w.heap.size w w') := fun c w1 w' h hb hc => h.below hb hc
  have hl := fun (W : World) => strs_lit W 9 [⟨#[]⟩, ⟨#[48]⟩, ⟨#[48, 48]⟩, ⟨#[45, 49]⟩, ⟨#[48, 49]⟩, ⟨#[55]⟩, ⟨#[49, 48, 48, 48, 48, 48, 48, 48, 48, 48, 48, 48, 48]⟩, ⟨#[49, 48, 48, 48, 48, 48, 48, 48, 48, 48, 48, 48, 49]⟩, ⟨#[57, 57, 57, 57, 57, 57, 57, 57, 57, 57, 57, 57, 57, 57]⟩, ⟨#[49, 120]⟩, ⟨#[32, 49]⟩] (fun s => s.size ≤ 30) (by decide)
  go_enter Tryd.func7, Tryd.ntmps7
  go_wp2_with (first | (go_at_call 16; refine (l1New_on _ _ _ hB hlen hby).mono ?_; rintro e w' ⟨c, rfl, hc, hcur, hb⟩; have ho := On.start hcur) | (go_at_call 17; refine (l1Once_on _ (by omega) (by omega) (by assumption)).mono ?_; rintro e w' ⟨b, rfl, ho'⟩; cases b) | (go_at_call 19; refine (l1Num_on (by assumption)).mono ?_; rintro e w' ⟨x, rfl, ⟨hx0, hx1⟩, ho2⟩) | (go_at_call 18; refine (l1Str_on _ 11 (by decide) (by decide) (hl _) (by simp) (fun e => by have := ho'.lt; omega) (ho'.alloc _)).mono ?_; rintro e w' ⟨s, rfl, hs, ho2⟩) | (go_at_call 14; refine (L1.specFormatInt_any _ (by omega) (by omega) _).mono ?_; rintro e w' ⟨rfl, hb2⟩))
  all_goals go_ret
  · have := Lib.itoa_length_le x (by omega) (by omega)
    have hb1 := hP.out _ _ _ ho2 hb hc
    exact ⟨_, rfl, by simp [ByteArray.size]; omega, hb1.trans (hb2.mono hb1.size)⟩
  · exact ⟨_, rfl, hs, hP.out _ _ _ ho2 hb hc⟩
end Go.Proofs.YtaccnbchehopjaaDoor.Draw
