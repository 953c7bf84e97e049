/- What the second form's bound gives: how long a list that came in can be; nothing of the program is proved here. -/
import Derived.Test.YtbnjjmmpgpomiaaDoorRows
namespace Go.Proofs.YtbnjjmmpgpomiaaDoor
set_option linter.unusedVariables false
set_option maxRecDepth 20000
theorem bulk_pos {H : Type} (d : DataW H) : 0 < Rows.uptoBulk d := by
  cases d with
  | lit l => cases l <;> simp only [Rows.uptoBulk] <;> omega
  | _ => simp only [Rows.uptoBulk] <;> omega
theorem bulk_len {H : Type} : ∀ l : List (DataW H), l.length ≤ Rows.uptoBulkAll l
  | [] => Nat.zero_le _
  | d :: l => by
    have h1 := bulk_pos d
    have h2 := bulk_len l
    simp only [Rows.uptoBulkAll, List.length_cons]
    omega
theorem bulk_slice {H : Type} (es sp : List (DataW H)) : es.length + sp.length ≤ Rows.uptoBulk (.slice es sp) := by
  have h1 := bulk_len es
  have h2 := bulk_len sp
  simp only [Rows.uptoBulk]
  omega
end Go.Proofs.YtbnjjmmpgpomiaaDoor
