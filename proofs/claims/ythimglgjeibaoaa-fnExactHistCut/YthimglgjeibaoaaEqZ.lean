/- A struct held against nothing, or against itself, in one step. -/
import Derived.Test.YthimglgjeibaoaaEvM
import Derived.Test.YthimglgjeibaoaaCmd1
import Derived.Test.YthimglgjeibaoaaCame1
namespace Go.Proofs.Ythimglgjeibaoaa
open Go.RowKit
set_option linter.unusedVariables false
set_option linter.unusedSimpArgs false
def Pl.noCmd (k : Int) (nm : ByteArray) (vk vn : Int) (vt : ByteArray) : Bool := k == 0 && (nm.toList.isEmpty && Pl.noVal vk vn vt)
def Pl.noCame (k p : Int) (nm : ByteArray) (o : Bool) (vk vn : Int) (vt : ByteArray) : Bool := k == 0 && (p == 0 && (nm.toList.isEmpty && (!o && Pl.noVal vk vn vt)))

theorem eqlVal0 (k n : Int) (t : ByteArray) (W : World) : (binOp .eql 40 (.agg #[.int .i64 k, .int .i64 n, .string t]) (.agg #[.int .i64 0, .int .i64 0, .string ⟨#[]⟩])).run Try.prog W = .ok (.bool (Pl.noVal k n t)) W := by
  unfold Pl.noVal
  cases h1 : (k == 0) <;> cases h2 : (n == 0) <;> cases h3 : t.toList.isEmpty <;> go_simp

theorem eqlCmd0 (k : Int) (nm : ByteArray) (vk vn : Int) (vt : ByteArray) (W : World) : (binOp .eql 42 (.agg #[.int .i64 k, .string nm, .int .i64 vk, .int .i64 vn, .string vt]) (.agg #[.int .i64 0, .string ⟨#[]⟩, .int .i64 0, .int .i64 0, .string ⟨#[]⟩])).run Try.prog W = .ok (.bool (Pl.noCmd k nm vk vn vt)) W := by
  unfold Pl.noCmd Pl.noVal
  cases q0 : (k == 0)
  · go_simp
  cases q1 : nm.toList.isEmpty
  · go_simp
  cases q2 : (vk == 0)
  · go_simp
  cases q3 : (vn == 0)
  · go_simp
  cases q4 : vt.toList.isEmpty
  · go_simp
  go_simp

theorem eqlCame0 (k p : Int) (nm : ByteArray) (o : Bool) (vk vn : Int) (vt : ByteArray) (W : World) : (binOp .eql 44 (.agg #[.int .i64 k, .int .i64 p, .string nm, .bool o, .int .i64 vk, .int .i64 vn, .string vt]) (.agg #[.int .i64 0, .int .i64 0, .string ⟨#[]⟩, .bool false, .int .i64 0, .int .i64 0, .string ⟨#[]⟩])).run Try.prog W = .ok (.bool (Pl.noCame k p nm o vk vn vt)) W := by
  unfold Pl.noCame Pl.noVal
  cases q0 : (k == 0)
  · go_simp
  cases q1 : (p == 0)
  · go_simp
  cases q2 : nm.toList.isEmpty
  · go_simp
  cases q3 : (!o)
  · go_simp
  cases q4 : (vk == 0)
  · go_simp
  cases q5 : (vn == 0)
  · go_simp
  cases q6 : vt.toList.isEmpty
  · go_simp
  go_simp

set_option maxHeartbeats 1600000 in
theorem eqlEv1 (e : Ev) (W : World) : (binOp .eql 46 (.agg #[.int .i64 e.k, .int .i64 e.vk, .int .i64 e.vn, .string e.vt, .int .i64 e.many, .int .i64 e.ck, .string e.cn, .int .i64 e.ak, .int .i64 e.an, .string e.ax, .int .i64 e.ct, .int .i64 e.mp, .string e.mn, .bool e.mo, .int .i64 e.wk, .int .i64 e.wn, .string e.wt]) (.agg #[.int .i64 e.k, .int .i64 e.vk, .int .i64 e.vn, .string e.vt, .int .i64 0, .int .i64 0, .string ⟨#[]⟩, .int .i64 0, .int .i64 0, .string ⟨#[]⟩, .int .i64 0, .int .i64 0, .string ⟨#[]⟩, .bool false, .int .i64 0, .int .i64 0, .string ⟨#[]⟩])).run Try.prog W = .ok (.bool ((e.many == 0) && (Pl.noCmd e.ck e.cn e.ak e.an e.ax && Pl.noCame e.ct e.mp e.mn e.mo e.wk e.wn e.wt))) W := by
  unfold Pl.noCame Pl.noCmd Pl.noVal
  cases q0 : (e.many == 0)
  · go_simp
  cases q1 : (e.ck == 0)
  · go_simp
  cases q2 : e.cn.toList.isEmpty
  · go_simp
  cases q3 : (e.ak == 0)
  · go_simp
  cases q4 : (e.an == 0)
  · go_simp
  cases q5 : e.ax.toList.isEmpty
  · go_simp
  cases q6 : (e.ct == 0)
  · go_simp
  cases q7 : (e.mp == 0)
  · go_simp
  cases q8 : e.mn.toList.isEmpty
  · go_simp
  cases q9 : (!e.mo)
  · go_simp
  cases q10 : (e.wk == 0)
  · go_simp
  cases q11 : (e.wn == 0)
  · go_simp
  cases q12 : e.wt.toList.isEmpty
  · go_simp
  go_simp

set_option maxHeartbeats 1600000 in
theorem eqlEv2 (e : Ev) (W : World) : (binOp .eql 46 (.agg #[.int .i64 e.k, .int .i64 e.vk, .int .i64 e.vn, .string e.vt, .int .i64 e.many, .int .i64 e.ck, .string e.cn, .int .i64 e.ak, .int .i64 e.an, .string e.ax, .int .i64 e.ct, .int .i64 e.mp, .string e.mn, .bool e.mo, .int .i64 e.wk, .int .i64 e.wn, .string e.wt]) (.agg #[.int .i64 e.k, .int .i64 0, .int .i64 0, .string ⟨#[]⟩, .int .i64 e.many, .int .i64 0, .string ⟨#[]⟩, .int .i64 0, .int .i64 0, .string ⟨#[]⟩, .int .i64 0, .int .i64 0, .string ⟨#[]⟩, .bool false, .int .i64 0, .int .i64 0, .string ⟨#[]⟩])).run Try.prog W = .ok (.bool (Pl.noVal e.vk e.vn e.vt && (Pl.noCmd e.ck e.cn e.ak e.an e.ax && Pl.noCame e.ct e.mp e.mn e.mo e.wk e.wn e.wt))) W := by
  unfold Pl.noCame Pl.noCmd Pl.noVal
  cases q0 : (e.vk == 0)
  · go_simp
  cases q1 : (e.vn == 0)
  · go_simp
  cases q2 : e.vt.toList.isEmpty
  · go_simp
  cases q3 : (e.ck == 0)
  · go_simp
  cases q4 : e.cn.toList.isEmpty
  · go_simp
  cases q5 : (e.ak == 0)
  · go_simp
  cases q6 : (e.an == 0)
  · go_simp
  cases q7 : e.ax.toList.isEmpty
  · go_simp
  cases q8 : (e.ct == 0)
  · go_simp
  cases q9 : (e.mp == 0)
  · go_simp
  cases q10 : e.mn.toList.isEmpty
  · go_simp
  cases q11 : (!e.mo)
  · go_simp
  cases q12 : (e.wk == 0)
  · go_simp
  cases q13 : (e.wn == 0)
  · go_simp
  cases q14 : e.wt.toList.isEmpty
  · go_simp
  go_simp

set_option maxHeartbeats 1600000 in
theorem eqlEv3 (e : Ev) (W : World) : (binOp .eql 46 (.agg #[.int .i64 e.k, .int .i64 e.vk, .int .i64 e.vn, .string e.vt, .int .i64 e.many, .int .i64 e.ck, .string e.cn, .int .i64 e.ak, .int .i64 e.an, .string e.ax, .int .i64 e.ct, .int .i64 e.mp, .string e.mn, .bool e.mo, .int .i64 e.wk, .int .i64 e.wn, .string e.wt]) (.agg #[.int .i64 e.k, .int .i64 0, .int .i64 0, .string ⟨#[]⟩, .int .i64 0, .int .i64 e.ck, .string e.cn, .int .i64 e.ak, .int .i64 e.an, .string e.ax, .int .i64 0, .int .i64 0, .string ⟨#[]⟩, .bool false, .int .i64 0, .int .i64 0, .string ⟨#[]⟩])).run Try.prog W = .ok (.bool (Pl.noVal e.vk e.vn e.vt && ((e.many == 0) && Pl.noCame e.ct e.mp e.mn e.mo e.wk e.wn e.wt))) W := by
  unfold Pl.noCame Pl.noVal
  cases q0 : (e.vk == 0)
  · go_simp
  cases q1 : (e.vn == 0)
  · go_simp
  cases q2 : e.vt.toList.isEmpty
  · go_simp
  cases q3 : (e.many == 0)
  · go_simp
  cases q4 : (e.ct == 0)
  · go_simp
  cases q5 : (e.mp == 0)
  · go_simp
  cases q6 : e.mn.toList.isEmpty
  · go_simp
  cases q7 : (!e.mo)
  · go_simp
  cases q8 : (e.wk == 0)
  · go_simp
  cases q9 : (e.wn == 0)
  · go_simp
  cases q10 : e.wt.toList.isEmpty
  · go_simp
  go_simp

set_option maxHeartbeats 1600000 in
theorem eqlEv4 (e : Ev) (W : World) : (binOp .eql 46 (.agg #[.int .i64 e.k, .int .i64 e.vk, .int .i64 e.vn, .string e.vt, .int .i64 e.many, .int .i64 e.ck, .string e.cn, .int .i64 e.ak, .int .i64 e.an, .string e.ax, .int .i64 e.ct, .int .i64 e.mp, .string e.mn, .bool e.mo, .int .i64 e.wk, .int .i64 e.wn, .string e.wt]) (.agg #[.int .i64 e.k, .int .i64 0, .int .i64 0, .string ⟨#[]⟩, .int .i64 0, .int .i64 0, .string ⟨#[]⟩, .int .i64 0, .int .i64 0, .string ⟨#[]⟩, .int .i64 e.ct, .int .i64 e.mp, .string e.mn, .bool e.mo, .int .i64 e.wk, .int .i64 e.wn, .string e.wt])).run Try.prog W = .ok (.bool (Pl.noVal e.vk e.vn e.vt && ((e.many == 0) && Pl.noCmd e.ck e.cn e.ak e.an e.ax))) W := by
  unfold Pl.noCmd Pl.noVal
  cases q0 : (e.vk == 0)
  · go_simp
  cases q1 : (e.vn == 0)
  · go_simp
  cases q2 : e.vt.toList.isEmpty
  · go_simp
  cases q3 : (e.many == 0)
  · go_simp
  cases q4 : (e.ck == 0)
  · go_simp
  cases q5 : e.cn.toList.isEmpty
  · go_simp
  cases q6 : (e.ak == 0)
  · go_simp
  cases q7 : (e.an == 0)
  · go_simp
  cases q8 : e.ax.toList.isEmpty
  · go_simp
  go_simp

set_option maxHeartbeats 1600000 in
theorem eqlEv5 (e : Ev) (W : World) : (binOp .eql 46 (.agg #[.int .i64 e.k, .int .i64 e.vk, .int .i64 e.vn, .string e.vt, .int .i64 e.many, .int .i64 e.ck, .string e.cn, .int .i64 e.ak, .int .i64 e.an, .string e.ax, .int .i64 e.ct, .int .i64 e.mp, .string e.mn, .bool e.mo, .int .i64 e.wk, .int .i64 e.wn, .string e.wt]) (.agg #[.int .i64 e.k, .int .i64 0, .int .i64 0, .string ⟨#[]⟩, .int .i64 0, .int .i64 0, .string ⟨#[]⟩, .int .i64 0, .int .i64 0, .string ⟨#[]⟩, .int .i64 0, .int .i64 0, .string ⟨#[]⟩, .bool false, .int .i64 0, .int .i64 0, .string ⟨#[]⟩])).run Try.prog W = .ok (.bool (Pl.noVal e.vk e.vn e.vt && ((e.many == 0) && (Pl.noCmd e.ck e.cn e.ak e.an e.ax && Pl.noCame e.ct e.mp e.mn e.mo e.wk e.wn e.wt)))) W := by
  unfold Pl.noCame Pl.noCmd Pl.noVal
  cases q0 : (e.vk == 0)
  · go_simp
  cases q1 : (e.vn == 0)
  · go_simp
  cases q2 : e.vt.toList.isEmpty
  · go_simp
  cases q3 : (e.many == 0)
  · go_simp
  cases q4 : (e.ck == 0)
  · go_simp
  cases q5 : e.cn.toList.isEmpty
  · go_simp
  cases q6 : (e.ak == 0)
  · go_simp
  cases q7 : (e.an == 0)
  · go_simp
  cases q8 : e.ax.toList.isEmpty
  · go_simp
  cases q9 : (e.ct == 0)
  · go_simp
  cases q10 : (e.mp == 0)
  · go_simp
  cases q11 : e.mn.toList.isEmpty
  · go_simp
  cases q12 : (!e.mo)
  · go_simp
  cases q13 : (e.wk == 0)
  · go_simp
  cases q14 : (e.wn == 0)
  · go_simp
  cases q15 : e.wt.toList.isEmpty
  · go_simp
  go_simp
end Go.Proofs.Ythimglgjeibaoaa
