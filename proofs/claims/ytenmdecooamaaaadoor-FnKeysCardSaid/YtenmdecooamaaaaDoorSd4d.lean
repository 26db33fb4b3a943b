/-
  Chapter 4's DrawParseKey (door: it formats keys).
-/
import Derived.Test.YtenmdecooamaaaaDoorSd4
import Derived.Test.YtenmdecooamaaaaDoorL4Fk
namespace Go.Proofs.YtenmdecooamaaaaDoor.Sd
open Go.ChangeShapes Go.WideShapes Go.ChangeAt Go.RowKit Mem Sl Ex Draw L2 L4
set_option linter.unusedVariables false

theorem fmt_small (k : K) (h0 : -1000000000001 ≤ k.n) (h1 : k.n ≤ 1000000000001) (h2 : k.text.size ≤ 13) : (strU (fmtU k)).size ≤ 100 := by
  have hz : (strU (fmtU k)).size = (fmtU k).length := by
    show (fmtU k).toArray.size = _
    simp
  rw [hz]
  have := Lib.itoa_length_le k.n (by omega) (by omega)
  have ht : k.t.length = k.text.size := Array.length_toList
  unfold fmtU
  split
  · split <;> split <;> simp <;> omega
  · simp
section
variable {W w : World} {rs : List Res} {c : Nat}
theorem drawParseKey_s {a : Option Addr} {len : Nat} (cap : Nat) (hl : len ≤ 4611686018427387904) (hby : Bytes W W.heap.size a len) (h : Sep W w rs) :
    Calls Tryd.prog 14 #[.slice a len cap] w fun e w' => ∃ s, e = .returned (.string s) ∧ s.size ≤ 100 ∧ Sep W w' rs := by
  have H := Lib.hid h
  have HL := Lib.hid (And.intro hl hby)
  clear h hl hby
  go_enter Tryd.func14, Tryd.ntmps14
  go_wp2_with fail
  go_at_call 21
  refine (new_s H.out a len cap HL.out.1 HL.out.2).mono ?_
  rintro e w1 ⟨c, rfl, h1⟩
  go_wp2_with fail
  go_at_call 32
  refine (once_s h1 rs.length (at_last _ _) _ (by decide) (by decide)).mono ?_
  rintro e w2 ⟨b, rfl, h2⟩
  clear h1
  cases b with
  | true =>
    go_wp2_with fail
    go_at_call 33
    refine (str_sg h2 rs.length (at_last _ _) [⟨#[]⟩, ⟨#[39]⟩, ⟨#[48, 53]⟩, ⟨#[45, 48]⟩, ⟨#[53, 39]⟩, ⟨#[53, 39, 65]⟩, ⟨#[39, 39]⟩, ⟨#[45, 53, 39, 120]⟩, ⟨#[49, 48, 48, 48, 48, 48, 48, 48, 48, 48, 48, 48, 49]⟩, ⟨#[45]⟩, ⟨#[39, 97, 98, 99, 100, 101, 102, 103, 104, 105, 106, 107, 108, 109]⟩, ⟨#[53, 39, 97, 39, 98]⟩] (fun s => s.size ≤ 100) (by decide) 12 rfl (by decide) (by decide) _ rfl).mono ?_
    rintro e w3 ⟨s, rfl, hs, h3⟩
    clear h2
    have HE := Lib.hid (drop1 h3)
    clear h3
    go_wp2_with fail
    go_ret
    exact ⟨_, rfl, hs, HE.out⟩
  | false =>
    go_wp2_with fail
    go_at_call 34
    refine (any_s h2 rs.length (at_last _ _)).mono ?_
    rintro e w3 ⟨k, rfl, hk, h3⟩
    clear h2
    obtain ⟨F, hF⟩ : ∃ F : ByteArray, F = strU (fmtU k) := ⟨_, rfl⟩
    have hFs : F.size ≤ 100 := by rw [hF]; exact fmt_small k hk.2.2.1 hk.2.2.2.1 hk.2.2.2.2
    have HF := Lib.hid (fun w => specFormatKey_any k (by have := hk.2.2.2.2; omega) w)
    rw [← hF] at HF
    clear hF hk
    go_wp2_with fail
    go_at_call 18
    refine (HF.out _).mono ?_
    rintro e w4 ⟨rfl, h4⟩
    have HE := Lib.hid (drop1 (h3.keep h4))
    clear h3 h4
    go_wp2_with fail
    go_ret
    exact ⟨_, rfl, hFs, HE.out⟩
end
end Go.Proofs.YtenmdecooamaaaaDoor.Sd
