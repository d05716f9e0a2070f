
import Derived.Test.YtlppeodjekpijaaThrM
namespace Go.Proofs.Ytlppeodjekpijaa

theorem chk_all : (five.all fun a => five.all fun b => chkAB a b) = true := by kernel_rfl
end Go.Proofs.Ytlppeodjekpijaa
