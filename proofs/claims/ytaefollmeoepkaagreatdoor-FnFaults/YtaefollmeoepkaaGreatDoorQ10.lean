import Derived.Test.YtaefollmeoepkaaGreatDoorQ08
import Derived.Test.YtaefollmeoepkaaGreatDoorQ09
namespace Go.Proofs.YtaefollmeoepkaaGreatDoor
set_option maxRecDepth 20000
set_option maxHeartbeats 16000000
open Go.RowKit
set_option linter.unusedVariables false
theorem hf_form{H:Ht}(h:¬(H.regs.length=16∧H.csr.length=11∧H.regs.getD 0 0=0)):hfV H=1:=by
 have:H.form=false:=by
  cases hf:H.form
  ·rfl
  ·simp only[Ht.form,Bool.and_eq_true,decide_eq_true_eq]at hf
   exact absurd ⟨hf.1.1,hf.1.2,hf.2⟩ h
 simp[hfV,this]
theorem hf_words{H:Ht}(h:H.regs.length=16∧H.csr.length=11∧H.regs.getD 0 0=0)(k:H.words=false):hfV H=3:=by
 have:H.form=true:=by simp only[Ht.form,Bool.and_eq_true,decide_eq_true_eq];exact⟨⟨h.1,h.2.1⟩,h.2.2⟩
 simp[hfV,this,k]
theorem hf_few{H:Ht}(h:H.regs.length=16∧H.csr.length=11∧H.regs.getD 0 0=0)(k:H.words=true)(m:¬(H.inn.length≤40∧H.out.length≤40)):hfV H=2:=by
 have h1:H.form=true:=by simp only[Ht.form,Bool.and_eq_true,decide_eq_true_eq];exact⟨⟨h.1,h.2.1⟩,h.2.2⟩
 have h2:H.few=false:=by
  cases hf:H.few
  ·rfl
  ·simp only[Ht.few,Bool.and_eq_true,decide_eq_true_eq]at hf
   exact absurd hf m
 simp[hfV,h1,k,h2]
theorem hf_nice{H:Ht}(h:H.regs.length=16∧H.csr.length=11∧H.regs.getD 0 0=0)(k:H.words=true)(m:H.inn.length≤40∧H.out.length≤40)(d:¬(0≤H.done∧H.done≤1000000000)):hfV H=3:=by
 have h1:H.form=true:=by simp only[Ht.form,Bool.and_eq_true,decide_eq_true_eq];exact⟨⟨h.1,h.2.1⟩,h.2.2⟩
 have h2:H.few=true:=by simp only[Ht.few,Bool.and_eq_true,decide_eq_true_eq];exact m
 have h3:H.nice=false:=by
  cases hf:H.nice
  ·rfl
  ·simp only[Ht.nice,Bool.and_eq_true,decide_eq_true_eq]at hf
   exact absurd hf d
 simp[hfV,h1,k,h2,h3]
theorem hf_stand{H:Ht}(h:H.regs.length=16∧H.csr.length=11∧H.regs.getD 0 0=0)(k:H.words=true)(m:H.inn.length≤40∧H.out.length≤40)(d:0≤H.done∧H.done≤1000000000):hfV H=if standC H.csr then 0 else 1:=by
 have h1:H.form=true:=by simp only[Ht.form,Bool.and_eq_true,decide_eq_true_eq];exact⟨⟨h.1,h.2.1⟩,h.2.2⟩
 have h2:H.few=true:=by simp only[Ht.few,Bool.and_eq_true,decide_eq_true_eq];exact m
 have h3:H.nice=true:=by simp only[Ht.nice,Bool.and_eq_true,decide_eq_true_eq];exact d
 simp[hfV,h1,k,h2,h3]
end Go.Proofs.YtaefollmeoepkaaGreatDoor
