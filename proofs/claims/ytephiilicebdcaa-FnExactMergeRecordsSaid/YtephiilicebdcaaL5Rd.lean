/-
  Begun: what l5Read and DecodeRecord (chapter 5) need: an append onto one of several owned things outside a drawn region; three of several things; strings made of bytes. No condition.
-/
import Derived.Test.YtephiilicebdcaaL5Dm
import Derived.Test.YtephiilicebdcaaL5Eql
namespace Go.Proofs.Ytephiilicebdcaa.L5
set_option maxRecDepth 100000
open L4 (boxR push_box box_at)
open Go.ChangeShapes Go.WideShapes Go.ChangeAt Go.RowKit Mem Sl Ex L2 Sv
set_option linter.unusedVariables false
set_option linter.unusedSimpArgs false

theorem wpList_append_v {P : Program} {W w : World} {rs : List Res} {e : TypeId} {k : Nat} {a : Option Addr} {c n : Nat} {xs : List Value} (S : Sep W w rs) (j : Nat) (hj : rs[j]? = some (ownV e k a c n xs))
    {ops : Array Oper} {rest : List Oper} {o : Oper} {act : Act} {Q : Exit → Act → World → Prop} (hgd : o.guard = none) (s x : Operand) (t : TypeId)
    (ho : o.op = .call { callee := .builtin .append, args := #[s, x], argTypes := #[t, t] })
    (i : TypeInfo) (z : Value) (bytes : Nat) (ht : P.underlying t = some (.slice e)) (hi : P.info? e = some i) (hz : i.zero = some z)
    (hsize : i.size = k) (hby : i.bytes = bytes) (hzs : z.cells.size = k) (hk : 0 < k) (n1 : Nat) (hs : act.eval s = .slice a n1 c) (hn : n1 = n)
    (B' : Nat) (A : Option Addr) (m m1 c' : Nat) (ys : List Value) (hx : act.eval x = .slice A m1 c') (hm : m1 = m) (hr : Reads w B' A ys) (hy : ys.length = m * k) (hone : ∀ u ∈ ys, u.oneCell' = true)
    (h63 : n + m ≤ maxLen) (hbytes : (n + m) * bytes ≤ 140737488355328)
    (h : ∀ a1 c1 w', Sep W w' (rs.set j (ownV e k a1 c1 (n + m) (xs ++ ys))) → wpList P ops Q rest (act.put o.dst (.slice a1 (n + m) c1)) w') : wpList P ops Q (o :: rest) act w := by
  subst hn
  subst hm
  refine wpList_plain hgd fun K hK => ?_
  obtain ⟨a1, c1, w', hrun, h2, h3, h4⟩ := run_append_rows (P := P) w 0 t o.type e i z k bytes ht hi hz hsize hby hzs hk a c n1 xs (own_at S j hj) B' A c' m1 ys hr hy hone h63 hbytes (Nat.zero_le _)
  unfold Oper.wp execOp
  simp only [ho, resolve, invoke, builtin, Sem.run_bind, Sem.run_pure, Result.andThen_ok, List.map_toArray, List.map_cons, List.map_nil, hs, hx, hrun]
  refine hK _ _ (h a1 c1 w' (Sd.put_new S j hj (Turned.of_grown h3) h2 fun b hb => ?_))
  have hb' : (Value.slice a1 (n1 + m1) c1).ownBlock = some b := by simpa [ownV] using hb
  rcases h4 b hb' with h5 | rfl
  · exact .inl (by simp [ownV, h5])
  · have := World.ownsRow.lt h2 _ hb'
    exact .inr ⟨Nat.le_refl _, this.2⟩
theorem sep_three {W w : World} {r0 r1 r2 : Res} {ts : List Res} (h : Sep W w (r0 :: r1 :: r2 :: ts)) : Sep W w [r0, r1, r2] :=
  sep_sub h (fun i => i) (fun i r hr => by
    match i, hr with
    | 0, hr => exact hr
    | 1, hr => exact hr
    | 2, hr => exact hr
    | i + 3, hr => simp at hr) (fun i j _ _ e => e)
theorem name_str (l : List Int) : (⟨(L4.toU l).toArray⟩ : ByteArray) = strOfNums l := by
  have h := strOfNums_data l
  apply ByteArray.ext
  apply Array.ext'
  rw [h]
  rfl
theorem rbE_bounds {l : List Int} (hl : Byt l) (off : Int) : 0 ≤ rbE l off 8 ∧ rbE l off 8 ≤ l.length := by
  cases h : rbB l off 8 with
  | false => rw [(rb_no h).2]; omega
  | true =>
    rw [(rb_yes h).2]
    have hb := rd_bounds hl off
    unfold rbB at h
    simp only [Bool.and_eq_true, decide_eq_true_eq] at h
    omega
/-- What a maker of a record, a number and a bool leaves. -/
def GaveRR (w : World) (fs : List F) (e : Int) (b : Bool) (en : Ending) (w' : World) : Prop :=
  ∃ a c, en = .returned (.tuple #[.agg #[.slice a fs.length c], .int .i64 e, .bool b]) ∧ OwnV w' w.heap.size 64 2 a c fs.length (cellsF fs) ∧ Below w.heap.size w w'
end Go.Proofs.Ytephiilicebdcaa.L5
