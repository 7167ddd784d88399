import Derived.Test.YthmlndmlnlfhnaaGreatDoorK6bd9d4dd
import Derived.Test.YthmlndmlnlfhnaaGreatDoorKe55fa621
set_option maxRecDepth 100000
set_option maxHeartbeats 16000000
namespace Go.Proofs.YthmlndmlnlfhnaaGreatDoor
open Go.RowKit Go.Shelf
def putS (w:World) (g o:Nat) (x0 x1 x2 x3 x4 x5 x6:Value):World :=
 ((((((w.setCell ⟨g,o,none⟩ x0).setCell ⟨g,o+1,none⟩ x1).setCell ⟨g,o+2,none⟩ x2).setCell ⟨g,o+3,none⟩ x3).setCell ⟨g,o+4,none⟩ x4).setCell ⟨g,o+5,none⟩ x5).setCell ⟨g,o+6,none⟩ x6
def setS (vs:List Value) (o:Nat) (x0 x1 x2 x3 x4 x5 x6:Value):List Value:=((((((vs.set o x0).set (o+1) x1).set (o+2) x2).set (o+3) x3).set (o+4) x4).set (o+5) x5).set (o+6) x6
section
variable {w:World} {g o:Nat} {vs:List Value} {x0 x1 x2 x3 x4 x5 x6:Value}
theorem yen:(setS vs o x0 x1 x2 x3 x4 x5 x6).length=vs.length:=by simp [setS]
theorem yru (h:Cs w g vs) (ho:o+7≤vs.length):Cs (putS w g o x0 x1 x2 x3 x4 x5 x6) g (setS vs o x0 x1 x2 x3 x4 x5 x6) :=
 ((((((h.set o (by omega) x0).set (o+1) (by simp;omega) x1).set (o+2) (by simp;omega) x2).set (o+3) (by simp;omega) x3).set (o+4) (by simp;omega) x4).set (o+5) (by simp;omega) x5).set (o+6) (by simp;omega) x6
theorem yic {j:Nat} (hj:j<o∨o+7≤j):(setS vs o x0 x1 x2 x3 x4 x5 x6)[j]? = vs[j]?:=by
 unfold setS
 rw [List.getElem?_set_ne (by omega),List.getElem?_set_ne (by omega),List.getElem?_set_ne (by omega),List.getElem?_set_ne (by omega),List.getElem?_set_ne (by omega),List.getElem?_set_ne (by omega),List.getElem?_set_ne (by omega)]
theorem yry (ho:o+7≤vs.length) {j:Nat} {v:Value} (hj:[x0,x1,x2,x3,x4,x5,x6][j]? = some v):(setS vs o x0 x1 x2 x3 x4 x5 x6)[o+j]? = some v:=by
 unfold setS
 match j with
 | 0=>rw [List.getElem?_set_ne (by omega),List.getElem?_set_ne (by omega),List.getElem?_set_ne (by omega),List.getElem?_set_ne (by omega),List.getElem?_set_ne (by omega),List.getElem?_set_ne (by omega),Nat.add_zero,List.getElem?_set_self (by omega)];exact hj
 | 1=>rw [List.getElem?_set_ne (by omega),List.getElem?_set_ne (by omega),List.getElem?_set_ne (by omega),List.getElem?_set_ne (by omega),List.getElem?_set_ne (by omega),List.getElem?_set_self (by simp;omega)];exact hj
 | 2=>rw [List.getElem?_set_ne (by omega),List.getElem?_set_ne (by omega),List.getElem?_set_ne (by omega),List.getElem?_set_ne (by omega),List.getElem?_set_self (by simp;omega)];exact hj
 | 3=>rw [List.getElem?_set_ne (by omega),List.getElem?_set_ne (by omega),List.getElem?_set_ne (by omega),List.getElem?_set_self (by simp;omega)];exact hj
 | 4=>rw [List.getElem?_set_ne (by omega),List.getElem?_set_ne (by omega),List.getElem?_set_self (by simp;omega)];exact hj
 | 5=>rw [List.getElem?_set_ne (by omega),List.getElem?_set_self (by simp;omega)];exact hj
 | 6=>rw [List.getElem?_set_self (by simp;omega)];exact hj
 | j+7=>simp at hj
theorem jga:(putS w g o x0 x1 x2 x3 x4 x5 x6).heap.size=w.heap.size:=by simp [putS,World.setCell]
theorem jea {k:Nat} (h:k≠g):(putS w g o x0 x1 x2 x3 x4 x5 x6).heap[k]? = w.heap[k]?:=by
 unfold putS
 rw [RowKit.Below.heap_setCell _ _ _ _ h,RowKit.Below.heap_setCell _ _ _ _ h,RowKit.Below.heap_setCell _ _ _ _ h,RowKit.Below.heap_setCell _ _ _ _ h,RowKit.Below.heap_setCell _ _ _ _ h,RowKit.Below.heap_setCell _ _ _ _ h,RowKit.Below.heap_setCell _ _ _ _ h]
theorem yhz:Below g w (putS w g o x0 x1 x2 x3 x4 x5 x6):=((((((jal ..).trans (jal ..)).trans (jal ..)).trans (jal ..)).trans (jal ..)).trans (jal ..)).trans (jal ..)
theorem jzd {c:Nat→Nat} (h:c g≠0):Fr c w (putS w g o x0 x1 x2 x3 x4 x5 x6):=by
 have hb:Below g w (putS w g o x0 x1 x2 x3 x4 x5 x6):=yhz
 exact ⟨hb.os,hb.tape,hb.output,hb.size,fun k _ h0=>jea (fun e=>h (e ▸ h0))⟩
end
theorem StoreC.drewS {w:World} {c:Nat→Nat} {g:Nat} {σ:StoreD} {vs:List Value} {vl:Value} (h:StoreC w c g σ vs vl):StoreC w.drew c g σ vs vl:=h.keep (w':=w.drew) (fun _ _=>rfl) (Nat.le_refl _)
theorem Fr.drew {c:Nat→Nat} {w w':World} (h:Fr c w w'):Fr c w w'.drew:=⟨h.os,h.tape,h.output,h.size,h.block⟩
theorem StoreC.putSess {w:World} {c:Nat→Nat} {g n:Nat} {σ:StoreD} {vs:List Value} {vl vd vt vg vr:Value} {x:SessD} (h:StoreC w c g σ vs vl) (hn:n<4) (hC:SessC w c n x vd vt vg vr) (hI:Inv (jaq σ n x)) :
  StoreC (putS w g (1+n*7) (.bool x.opn) (.bool x.strict) (.int .i64 x.frm) vd vt vg vr) c g (jaq σ n x) (setS vs (1+n*7) (.bool x.opn) (.bool x.strict) (.int .i64 x.frm) vd vt vg vr) vl:=by
 have hl:=h.len
 have hg:=h.col
 refine h.setSess hn (yru h.cs (by omega)) (by rw [yen];exact hl) (fun b h0 h1 _ _=>⟨jea (fun e=>h1 (by rw [e];exact hg)),rfl⟩) hg h.one (fun b hb=>by rw [jga];exact h.lt b hb) (fun j hj=>yic (by omega)) (vd:=vd) (vt:=vt) (vg:=vg) (vr:=vr) (hC.keep fun b hb=>⟨jea (fun e=>by rw [e,hg] at hb;omega),rfl⟩) (fun j v hj=>yry (by omega) hj) hI
theorem ysu {α:Type} {p:α→Bool} {l:List α}:∀ {k:Nat} {x:α},l[k]? = some x→p x=true→(∀ (j:Nat) y,j<k→l[j]? = some y→p y=false)→l.findIdx? p=some k:=by
 induction l with
 | nil=>intro k x h;simp at h
 | cons a l ih =>
  intro k x h hp hb
  rw [List.findIdx?_cons]
  cases k with
  | zero=>simp at h;subst h;rw [hp];rfl
  | succ k =>
   rw [hb 0 a (by omega) rfl]
   simp only [Bool.false_eq_true,if_false]
   rw [ih (by simpa using h) hp (fun j y hj hy=>hb (j+1) y (by omega) (by simpa using hy))]
   rfl
theorem ysv {α:Type} {p:α→Bool} {l:List α} (h:∀ (j:Nat) y,l[j]? = some y→p y=false):l.findIdx? p=none:=by
 rw [List.findIdx?_eq_none_iff]
 intro x hx
 obtain ⟨k,hk⟩:=List.mem_iff_getElem?.1 hx
 exact h k x hk
def jlw (σ:StoreD):Int:=match σ.sess.findIdx? (fun x=>!x.opn) with | some n=>n | none=>-1
theorem yrr (x:SessD) (vd vt vg vr:Value) (Ad At Ag Ah:Option Addr) (nd nt ng nh cd ct cg ch:Nat) (hd:vd = .slice Ad nd cd) (ht:vt = .slice At nt ct) (hg:vg = .slice Ag ng cg) (hh:vr = .slice Ah nh ch) (w:World) :
  Calls Tryz.prog 69 #[.agg #[.bool x.opn,.bool x.strict,.int .i64 x.frm,vd,vt,vg,vr]] w fun e w'=>e = .returned (.bool (!x.opn))∧Below w.heap.size w w':=by
 subst hd ht hg hh
 have hb0:=jac w (.cells #[.bool x.opn,.bool x.strict,.int .i64 x.frm,.slice Ad nd cd,.slice At nt ct,.slice Ag ng cg,.slice Ah nh ch] 41)
 have C0:=Lib.hid (Cs.new w [.bool x.opn,.bool x.strict,.int .i64 x.frm,.slice Ad nd cd,.slice At nt ct,.slice Ag ng cg,.slice Ah nh ch] 41)
 change Hid (Cs (w.alloc (.cells #[.bool x.opn,.bool x.strict,.int .i64 x.frm,.slice Ad nd cd,.slice At nt ct,.slice Ag ng cg,.slice Ah nh ch] 41)) _ _) at C0
 generalize hw0:w.alloc (.cells #[.bool x.opn,.bool x.strict,.int .i64 x.frm,.slice Ad nd cd,.slice At nt ct,.slice Ag ng cg,.slice Ah nh ch] 41)=w0 at *
 have k0:=C0.out.at 0 rfl
 go_enter Tryz.func69,Tryz.ntmps69
 go_wp2
 go_ret
 exact ⟨rfl,hb0⟩
theorem jw8 (σ:StoreD) (c:Nat→Nat) (g:Nat) (vs:List Value) (vl:Value) (w:World) (h:StoreC w c g σ vs vl) :
  Calls Tryz.prog 68 #[.slice (some ⟨g,1,none⟩) 4 4,.func (.func 69) #[] #[]] w fun e w'=>e = .returned (.int .i64 (jlw σ))∧Below w.heap.size w w':=by
 have HH:=Lib.hid h
 have h4:=Lib.hid h.inv.four
 have eg:∀ args w,(callFunc 69 args).run Tryz.prog w = .ok (.enter 69 args) w:=enters_of Tryz.func69 (by kernel_rfl) rfl
 clear h
 go_enter Tryz.func68,Tryz.ntmps68
 go_wp2
 go_loopw [8] (fun i wr=>∃ k:Nat,k≤4∧i = .int .i64 k∧Hid (∀ j y,j<k → σ.sess[j]? = some y→(!y.opn)=false)∧Below w.heap.size w wr) (fun i _=>4-(intOf i).toNat)
 case atStart=>exact ⟨0,Nat.zero_le _,rfl,fun j y hj=>by omega,Below.refl _ _⟩
 case round =>
  obtain ⟨k,hk,rfl,hf,hb⟩:=hrel
  by_cases hlt:k<4
  ·have hx:Hid (σ.sess[k]? = some (σ.sessN k)):=je5 HH.out.inv hlt
   have H1:=HH.out.next hb
   obtain ⟨vd,vt,vg,vr,hC,hn,-,hcell⟩:=H1.sessAt hx.out
   obtain ⟨Ad,cd,e1,-,-⟩:=hC.doms.form
   obtain ⟨At,ct,e2,-,-⟩:=hC.tabs.form
   obtain ⟨Ag,cg,e3,-,-,-⟩:=jah hC.gone
   obtain ⟨Ah,ch,e4,-,-,-⟩:=jah hC.read
   have E1:=Lib.hid e1
   have E2:=Lib.hid e2
   have E3:=Lib.hid e3
   have E4:=Lib.hid e4
   generalize hX:σ.sessN k=X at *
   have c0:wr.cell? ⟨g,1+k*7,none⟩=some (.bool X.opn):=(hcell 0 _ rfl).1
   have c1:=(hcell 1 _ rfl).1
   have c2:=(hcell 2 _ rfl).1
   have c3:=(hcell 3 _ rfl).1
   have c4:=(hcell 4 _ rfl).1
   have c5:=(hcell 5 _ rfl).1
   have c6:=(hcell 6 _ rfl).1
   clear hcell hC H1 e1 e2 e3 e4 hn hX
   go_wp2_with fail
   refine (yrr X vd vt vg vr _ _ _ _ _ _ _ _ _ _ _ _ E1.out E2.out E3.out E4.out _).mono ?_
   rintro e w1 ⟨rfl,hb1⟩
   have hb01:=bx hb hb1
   cases hq:X.opn
   ·have HQ:Hid (jlw σ=k):=by
     show _=_
     unfold jlw
     rw [ysu (p:=fun x=>!x.opn) hx.out (by simp [hq]) (fun j y hj hy=>hf.out j y hj hy)]
    clear hq
    go_wp2
    go_ret
    exact ⟨jew HQ.out.symm,hb01⟩
   ·have HQ:Hid (∀ j y,j<k+1 → σ.sess[j]? = some y→(!y.opn)=false):=fun j y hj hy=>by
     by_cases e:j<k
     ·exact hf.out j y e hy
     ·obtain rfl:j=k:=by omega
      rw [hx.out] at hy
      injection hy with hy
      rw [← hy,hq];rfl
    clear hq
    go_wp2
    exact ⟨⟨k+1,by omega,by go_num,HQ,hb01⟩,by simp [intOf];omega⟩
  ·have HQ:Hid (jlw σ = -1):=by
    show _=_
    unfold jlw
    rw [ysv (p:=fun x=>!x.opn) (fun j y hy=>hf.out j y (by have:=(List.getElem?_eq_some_iff.1 hy).1;have:=h4.out;omega) hy)]
   go_wp2
   go_ret
   exact ⟨jew HQ.out.symm,hb⟩
open Go.RowKit Go.Shelf
theorem jw1 {σ:StoreD} {k:Nat} (h:jlw σ=k):σ.sess.findIdx? (fun x=>!x.opn)=some k:=by
 unfold jlw at h
 cases hf:σ.sess.findIdx? (fun x=>!x.opn) with
 | none=>rw [hf] at h;simp only at h;omega
 | some n=>rw [hf] at h;simp only at h;congr 1;omega
theorem jw0 {σ:StoreD} (h:jlw σ<0):σ.sess.findIdx? (fun x=>!x.opn)=none:=by
 unfold jlw at h
 cases hf:σ.sess.findIdx? (fun x=>!x.opn) with
 | none=>rfl
 | some n=>rw [hf] at h;simp only at h;omega
theorem yob {σ:StoreD} (hi:Inv σ):jlw σ<4:=by
 unfold jlw
 cases hf:σ.sess.findIdx? (fun x=>!x.opn) with
 | none=>simp
 | some n =>
  have:=List.findIdx?_eq_some_iff_findIdx_eq.1 hf
  simp only
  have:=this.1
  rw [hi.four] at this
  omega
theorem yim (σ:StoreD) (c:Nat→Nat) (g:Nat) (vs:List Value) (vl:Value) (w:World) (h:StoreC w c g σ vs vl) (strict:Int) :
  Calls Tryz.prog 42 #[.pointer (some ⟨g,0,none⟩),.int .i64 strict] w (jam w c g (jmt σ strict)):=by
 have HH:=Lib.hid h
 have HCL:=Lib.hid h.lt
 have HIV:=Lib.hid h.inv
 have hlen:=h.len
 have hl39:σ.last≤39:=h.inv.some_
 have hgw:g<w.heap.size:=h.cs.1
 have hcg:c g≠0:=by rw [h.col];decide
 have hc0:c w.heap.size=0:=jb1 h.lt (Nat.le_refl _)
 have hb0:=jac w (.cells #[.int .i64 0,.int .i64 0,.string ⟨#[]⟩,.slice none 0 0,.slice none 0 0] 30)
 have C0:=Lib.hid (Cs.new w zeroRL 30)
 have hz0:(w.alloc (.cells #[.int .i64 0,.int .i64 0,.string ⟨#[]⟩,.slice none 0 0,.slice none 0 0] 30)).heap.size=w.heap.size+1:=by simp
 change Hid (Cs (w.alloc (.cells #[.int .i64 0,.int .i64 0,.string ⟨#[]⟩,.slice none 0 0,.slice none 0 0] 30)) _ _) at C0
 generalize hw0:w.alloc (.cells #[.int .i64 0,.int .i64 0,.string ⟨#[]⟩,.slice none 0 0,.slice none 0 0] 30)=w0 at *
 have H0:=Lib.hid (HH.out.next hb0)
 clear h
 by_cases hbad:strict≠0∧strict≠1
 ·have HE:Hid (jmt σ strict=(σ,jb8 2)):=by show _=_;unfold jmt;rw [if_pos hbad]
  have n1:(strict != 0)=true:=by rw [bne_iff_ne];exact hbad.1
  have n2:(strict != 1)=true:=by rw [bne_iff_ne];exact hbad.2
  have n3:(strict == 0)=false:=by rw [beq_eq_false_iff_ne];exact hbad.1
  have n4:(strict == 1)=false:=by rw [beq_eq_false_iff_ne];exact hbad.2
  clear hbad
  have r0:=C0.out.at 0 rfl
  have r1:=C0.out.at 1 rfl
  have r2:=C0.out.at 2 rfl
  have r3:=C0.out.at 3 rfl
  have r4:=C0.out.at 4 rfl
  have f0:=C0.out.2.2 0 (by simp)
  have f1:=C0.out.2.2 1 (by simp)
  have f2:=C0.out.2.2 2 (by simp)
  have f3:=C0.out.2.2 3 (by simp)
  have f4:=C0.out.2.2 4 (by simp)
  go_enter Tryz.func42,Tryz.ntmps42
  go_wp2
  (try simp only [Exit.inBlock,Exit.then])
  refine bodyPost_ret (jaz (b:=w.heap.size) rfl rfl (jbs C0.out _ _ _ _ _)) rfl ?_
  rw [HE.out]
  exact jam.wrote H0.out (fun _ _=>rfl) (Nat.le_refl _) hc0 (Fr.below hb0) (jb0.plain 2 0 _)
 ·have HE0:Hid (jmt σ strict=match σ.sess.findIdx? (fun x=>!x.opn) with | none=>(σ,jb8 11) | some n=>(⟨σ.later,σ.sess.set n ⟨true,decide (strict=1),σ.last,jif,[],[]⟩,σ.acts⟩,numR n)):=by show _=_;unfold jmt;rw [if_neg hbad];rfl
  have hst:((strict != 0) && (strict != 1))=false:=by
   by_cases e:strict=0
   ·rw [e];rfl
   ·have:strict=1:=by
     by_cases e1:strict=1
     ·exact e1
     ·exact absurd ⟨e,e1⟩ hbad
    rw [this];rfl
  have hfl:=yob HIV.out
  rcases (show strict=0∨strict=1 by omega) with rfl | rfl
  ·clear hbad hst
   go_enter Tryz.func42,Tryz.ntmps42
   go_wp2_with fail
   refine (jw8 σ c g vs vl _ H0.out).mono ?_
   rintro e w1 ⟨rfl,hb1⟩
   have hb01:=bx hb0 hb1
   have hs1:=hb1.size
   have H1:=Lib.hid (H0.out.next hb1)
   have C1:=Lib.hid (C0.out.next hb1)
   generalize hF:jlw σ=F at *
   by_cases hneg:F<0
   ·have HE:Hid (jmt σ 0=(σ,jb8 11)):=by show _=_;rw [HE0.out,jw0 (by rw [hF];exact hneg)]
    have r0:=C1.out.at 0 rfl
    have r1:=C1.out.at 1 rfl
    have r2:=C1.out.at 2 rfl
    have r3:=C1.out.at 3 rfl
    have r4:=C1.out.at 4 rfl
    have f0:=C1.out.2.2 0 (by simp)
    have f1:=C1.out.2.2 1 (by simp)
    have f2:=C1.out.2.2 2 (by simp)
    have f3:=C1.out.2.2 3 (by simp)
    have f4:=C1.out.2.2 4 (by simp)
    go_wp2
    (try simp only [Exit.inBlock,Exit.then])
    refine bodyPost_ret (jaz (b:=w.heap.size) rfl rfl (jbs C1.out _ _ _ _ _)) rfl ?_
    rw [HE.out]
    exact jam.wrote H1.out (fun _ _=>rfl) (Nat.le_refl _) hc0 (Fr.below hb01) (jb0.plain 11 0 _)
   ·obtain ⟨k,rfl⟩:∃ k:Nat,F=k:=⟨F.toNat,by omega⟩
    have hk:k<4:=by omega
    have HE:Hid (jmt σ 0=(jaq σ k ⟨true,false,σ.last,jif,[],[]⟩,numR k)):=by show _=_;rw [HE0.out,jw1 hF];rfl
    have HI:Hid (Inv (jaq σ k ⟨true,false,σ.last,jif,[],[]⟩)):=HIV.out.set ⟨jno,rfl,rfl,Nat.le_refl _,Nat.zero_le _,Nat.zero_le _,Nat.zero_le _,Nat.zero_le _⟩
    have H1d:Hid (StoreC w1.drew c g σ vs vl):=H1.out.keep (w':=w1.drew) (fun _ _=>rfl) (Nat.le_refl _)
    have HS:Hid (∃ vs',StoreC (putS w1 g (1+k*7) (.bool true) (.bool (false)) (.int .i64 σ.last) (.slice none 0 0) (.slice none 0 0) (.slice none 0 0) (.slice none 0 0)).drew c g (jaq σ k ⟨true,false,σ.last,jif,[],[]⟩) vs' vl):=⟨_,(H1.out.putSess (n:=k) (x:=⟨true,false,σ.last,jif,[],[]⟩) (vd:=.slice none 0 0) (vt:=.slice none 0 0) (vg:=.slice none 0 0) (vr:=.slice none 0 0) hk ⟨Sl.nil,Sl.nil,OwnT.nil,(fun b hb=>by cases hb),OwnT.nil,(fun b hb=>by cases hb)⟩ HI.out).drewS⟩
    obtain ⟨vd,vt,vg,vr,-,-,-,hcell⟩:=H1d.out.sessAt (je5 HIV.out hk)
    have a0:w1.drew.cell? ⟨g,1+k*7,none⟩=_:=(hcell 0 _ rfl).1
    have a1:=(hcell 1 _ rfl).1
    have a2:=(hcell 2 _ rfl).1
    have a3:=(hcell 3 _ rfl).1
    have a4:=(hcell 4 _ rfl).1
    have a5:=(hcell 5 _ rfl).1
    have a6:=(hcell 6 _ rfl).1
    have z0:w1.drew.frozen? ⟨g,1+k*7,none⟩=false:=(hcell 0 _ rfl).2
    have z1:=(hcell 1 _ rfl).2
    have z2:=(hcell 2 _ rfl).2
    have z3:=(hcell 3 _ rfl).2
    have z4:=(hcell 4 _ rfl).2
    have z5:=(hcell 5 _ rfl).2
    have z6:=(hcell 6 _ rfl).2
    have b0:w1.cell? ⟨g,1+k*7,none⟩=_:=a0
    have b1:w1.cell? ⟨g,1+k*7+1,none⟩=_:=a1
    have b2:w1.cell? ⟨g,1+k*7+2,none⟩=_:=a2
    have b3:w1.cell? ⟨g,1+k*7+3,none⟩=_:=a3
    have b4:w1.cell? ⟨g,1+k*7+4,none⟩=_:=a4
    have b5:w1.cell? ⟨g,1+k*7+5,none⟩=_:=a5
    have b6:w1.cell? ⟨g,1+k*7+6,none⟩=_:=a6
    have y0:w1.frozen? ⟨g,1+k*7,none⟩=false:=z0
    have y1:w1.frozen? ⟨g,1+k*7+1,none⟩=false:=z1
    have y2:w1.frozen? ⟨g,1+k*7+2,none⟩=false:=z2
    have y3:w1.frozen? ⟨g,1+k*7+3,none⟩=false:=z3
    have y4:w1.frozen? ⟨g,1+k*7+4,none⟩=false:=z4
    have y5:w1.frozen? ⟨g,1+k*7+5,none⟩=false:=z5
    have y6:w1.frozen? ⟨g,1+k*7+6,none⟩=false:=z6
    have hk0:(0:Int)≤k:=by omega
    have hk4:(k:Int)<4:=by omega
    clear hcell hF hneg
    go_wp2_with fail
    go_region_law (first
     | (go_simp;go_at_call 45;refine (jgr σ c g vs vl _ H1d.out).mono ?_;rintro e w2 ⟨rfl,hw2⟩;replace hw2:=hw2.symm;subst hw2))
    all_goals
     have C2:Hid (Cs ((putS w1 g (1+k*7) (.bool true) (.bool (false)) (.int .i64 σ.last) (.slice none 0 0) (.slice none 0 0) (.slice none 0 0) (.slice none 0 0)).drew) w.heap.size zeroRL):=(C1.out.keep (w':=(putS w1 g (1+k*7) (.bool true) (.bool (false)) (.int .i64 σ.last) (.slice none 0 0) (.slice none 0 0) (.slice none 0 0) (.slice none 0 0))) (jea (by omega)) (Nat.le_of_eq jga.symm)).drew
     have hFR:Fr c w ((putS w1 g (1+k*7) (.bool true) (.bool (false)) (.int .i64 σ.last) (.slice none 0 0) (.slice none 0 0) (.slice none 0 0) (.slice none 0 0)).drew):=((Fr.below hb01).trans (jzd hcg) (fun _ _=>rfl)).drew
     have r0:=C2.out.at 0 rfl
     have r1:=C2.out.at 1 rfl
     have r2:=C2.out.at 2 rfl
     have r3:=C2.out.at 3 rfl
     have r4:=C2.out.at 4 rfl
     have f0:=C2.out.2.2 0 (by simp)
     have f1:=C2.out.2.2 1 (by simp)
     have f2:=C2.out.2.2 2 (by simp)
     have f3:=C2.out.2.2 3 (by simp)
     have f4:=C2.out.2.2 4 (by simp)
     change Exit.then _ _ _ _ ((putS w1 g (1+k*7) (.bool true) (.bool (false)) (.int .i64 σ.last) (.slice none 0 0) (.slice none 0 0) (.slice none 0 0) (.slice none 0 0)).drew)
     generalize (putS w1 g (1+k*7) (.bool true) (.bool (false)) (.int .i64 σ.last) (.slice none 0 0) (.slice none 0 0) (.slice none 0 0) (.slice none 0 0)).drew=w3 at *
     go_wp2
     (try simp only [Exit.inBlock,Exit.then])
     refine bodyPost_ret (jaz (b:=w.heap.size) rfl rfl (jbs C2.out _ _ _ _ _)) rfl ?_
     rw [HE.out]
     obtain ⟨vs',hst⟩:=HS.out
     exact jam.wrote hst (fun _ _=>rfl) (Nat.le_refl _) hc0 hFR (jb0.plain 0 _ _)
  ·clear hbad hst
   go_enter Tryz.func42,Tryz.ntmps42
   go_wp2_with fail
   refine (jw8 σ c g vs vl _ H0.out).mono ?_
   rintro e w1 ⟨rfl,hb1⟩
   have hb01:=bx hb0 hb1
   have hs1:=hb1.size
   have H1:=Lib.hid (H0.out.next hb1)
   have C1:=Lib.hid (C0.out.next hb1)
   generalize hF:jlw σ=F at *
   by_cases hneg:F<0
   ·have HE:Hid (jmt σ 1=(σ,jb8 11)):=by show _=_;rw [HE0.out,jw0 (by rw [hF];exact hneg)]
    have r0:=C1.out.at 0 rfl
    have r1:=C1.out.at 1 rfl
    have r2:=C1.out.at 2 rfl
    have r3:=C1.out.at 3 rfl
    have r4:=C1.out.at 4 rfl
    have f0:=C1.out.2.2 0 (by simp)
    have f1:=C1.out.2.2 1 (by simp)
    have f2:=C1.out.2.2 2 (by simp)
    have f3:=C1.out.2.2 3 (by simp)
    have f4:=C1.out.2.2 4 (by simp)
    go_wp2
    (try simp only [Exit.inBlock,Exit.then])
    refine bodyPost_ret (jaz (b:=w.heap.size) rfl rfl (jbs C1.out _ _ _ _ _)) rfl ?_
    rw [HE.out]
    exact jam.wrote H1.out (fun _ _=>rfl) (Nat.le_refl _) hc0 (Fr.below hb01) (jb0.plain 11 0 _)
   ·obtain ⟨k,rfl⟩:∃ k:Nat,F=k:=⟨F.toNat,by omega⟩
    have hk:k<4:=by omega
    have HE:Hid (jmt σ 1=(jaq σ k ⟨true,true,σ.last,jif,[],[]⟩,numR k)):=by show _=_;rw [HE0.out,jw1 hF];rfl
    have HI:Hid (Inv (jaq σ k ⟨true,true,σ.last,jif,[],[]⟩)):=HIV.out.set ⟨jno,rfl,rfl,Nat.le_refl _,Nat.zero_le _,Nat.zero_le _,Nat.zero_le _,Nat.zero_le _⟩
    have H1d:Hid (StoreC w1.drew c g σ vs vl):=H1.out.keep (w':=w1.drew) (fun _ _=>rfl) (Nat.le_refl _)
    have HS:Hid (∃ vs',StoreC (putS w1 g (1+k*7) (.bool true) (.bool (true)) (.int .i64 σ.last) (.slice none 0 0) (.slice none 0 0) (.slice none 0 0) (.slice none 0 0)).drew c g (jaq σ k ⟨true,true,σ.last,jif,[],[]⟩) vs' vl):=⟨_,(H1.out.putSess (n:=k) (x:=⟨true,true,σ.last,jif,[],[]⟩) (vd:=.slice none 0 0) (vt:=.slice none 0 0) (vg:=.slice none 0 0) (vr:=.slice none 0 0) hk ⟨Sl.nil,Sl.nil,OwnT.nil,(fun b hb=>by cases hb),OwnT.nil,(fun b hb=>by cases hb)⟩ HI.out).drewS⟩
    obtain ⟨vd,vt,vg,vr,-,-,-,hcell⟩:=H1d.out.sessAt (je5 HIV.out hk)
    have a0:w1.drew.cell? ⟨g,1+k*7,none⟩=_:=(hcell 0 _ rfl).1
    have a1:=(hcell 1 _ rfl).1
    have a2:=(hcell 2 _ rfl).1
    have a3:=(hcell 3 _ rfl).1
    have a4:=(hcell 4 _ rfl).1
    have a5:=(hcell 5 _ rfl).1
    have a6:=(hcell 6 _ rfl).1
    have z0:w1.drew.frozen? ⟨g,1+k*7,none⟩=false:=(hcell 0 _ rfl).2
    have z1:=(hcell 1 _ rfl).2
    have z2:=(hcell 2 _ rfl).2
    have z3:=(hcell 3 _ rfl).2
    have z4:=(hcell 4 _ rfl).2
    have z5:=(hcell 5 _ rfl).2
    have z6:=(hcell 6 _ rfl).2
    have b0:w1.cell? ⟨g,1+k*7,none⟩=_:=a0
    have b1:w1.cell? ⟨g,1+k*7+1,none⟩=_:=a1
    have b2:w1.cell? ⟨g,1+k*7+2,none⟩=_:=a2
    have b3:w1.cell? ⟨g,1+k*7+3,none⟩=_:=a3
    have b4:w1.cell? ⟨g,1+k*7+4,none⟩=_:=a4
    have b5:w1.cell? ⟨g,1+k*7+5,none⟩=_:=a5
    have b6:w1.cell? ⟨g,1+k*7+6,none⟩=_:=a6
    have y0:w1.frozen? ⟨g,1+k*7,none⟩=false:=z0
    have y1:w1.frozen? ⟨g,1+k*7+1,none⟩=false:=z1
    have y2:w1.frozen? ⟨g,1+k*7+2,none⟩=false:=z2
    have y3:w1.frozen? ⟨g,1+k*7+3,none⟩=false:=z3
    have y4:w1.frozen? ⟨g,1+k*7+4,none⟩=false:=z4
    have y5:w1.frozen? ⟨g,1+k*7+5,none⟩=false:=z5
    have y6:w1.frozen? ⟨g,1+k*7+6,none⟩=false:=z6
    have hk0:(0:Int)≤k:=by omega
    have hk4:(k:Int)<4:=by omega
    clear hcell hF hneg
    go_wp2_with fail
    go_region_law (first
     | (go_simp;go_at_call 45;refine (jgr σ c g vs vl _ H1d.out).mono ?_;rintro e w2 ⟨rfl,hw2⟩;replace hw2:=hw2.symm;subst hw2))
    all_goals
     have C2:Hid (Cs ((putS w1 g (1+k*7) (.bool true) (.bool (true)) (.int .i64 σ.last) (.slice none 0 0) (.slice none 0 0) (.slice none 0 0) (.slice none 0 0)).drew) w.heap.size zeroRL):=(C1.out.keep (w':=(putS w1 g (1+k*7) (.bool true) (.bool (true)) (.int .i64 σ.last) (.slice none 0 0) (.slice none 0 0) (.slice none 0 0) (.slice none 0 0))) (jea (by omega)) (Nat.le_of_eq jga.symm)).drew
     have hFR:Fr c w ((putS w1 g (1+k*7) (.bool true) (.bool (true)) (.int .i64 σ.last) (.slice none 0 0) (.slice none 0 0) (.slice none 0 0) (.slice none 0 0)).drew):=((Fr.below hb01).trans (jzd hcg) (fun _ _=>rfl)).drew
     have r0:=C2.out.at 0 rfl
     have r1:=C2.out.at 1 rfl
     have r2:=C2.out.at 2 rfl
     have r3:=C2.out.at 3 rfl
     have r4:=C2.out.at 4 rfl
     have f0:=C2.out.2.2 0 (by simp)
     have f1:=C2.out.2.2 1 (by simp)
     have f2:=C2.out.2.2 2 (by simp)
     have f3:=C2.out.2.2 3 (by simp)
     have f4:=C2.out.2.2 4 (by simp)
     change Exit.then _ _ _ _ ((putS w1 g (1+k*7) (.bool true) (.bool (true)) (.int .i64 σ.last) (.slice none 0 0) (.slice none 0 0) (.slice none 0 0) (.slice none 0 0)).drew)
     generalize (putS w1 g (1+k*7) (.bool true) (.bool (true)) (.int .i64 σ.last) (.slice none 0 0) (.slice none 0 0) (.slice none 0 0) (.slice none 0 0)).drew=w3 at *
     go_wp2
     (try simp only [Exit.inBlock,Exit.then])
     refine bodyPost_ret (jaz (b:=w.heap.size) rfl rfl (jbs C2.out _ _ _ _ _)) rfl ?_
     rw [HE.out]
     obtain ⟨vs',hst⟩:=HS.out
     exact jam.wrote hst (fun _ _=>rfl) (Nat.le_refl _) hc0 hFR (jb0.plain 0 _ _)
open Go.RowKit Go.Shelf
theorem jam.up {w w2 w3:World} {c:Nat→Nat} {g b0:Nat} {R:StoreD × ReplyD} {e:Ending} (hP:jam w2 c g R e w3) (hF:Fr c w w2) (hb0:w.heap.size≤b0) (hb02:b0<w2.heap.size) (hc0:c b0=0) (hC:Cs w2 b0 zeroRL) :
  ∃ A1 k1 A2 k2,e = .returned (.agg #[.int .i64 R.2.code,.int .i64 R.2.n,.string R.2.text,.slice A1 R.2.answers.length k1,.slice A2 R.2.at_.length k2])∧Cs w3 b0 zeroRL ∧
   jam w c g R (.returned (.agg #[.int .i64 R.2.code,.int .i64 R.2.n,.string R.2.text,.slice A1 R.2.answers.length k1,.slice A2 R.2.at_.length k2])) (put5 w3 b0 (.int .i64 R.2.code) (.int .i64 R.2.n) (.string R.2.text) (.slice A1 R.2.answers.length k1) (.slice A2 R.2.at_.length k2)):=by
 obtain ⟨c',v,rfl,⟨vs',vl',hst⟩,hold,hfr,va,vt,rfl,ha,ht⟩:=hP
 have ha':=ha
 have ht':=ht
 obtain ⟨A1,k1,rfl,-,-⟩:=ha.form
 obtain ⟨A2,k2,rfl,-,-⟩:=ht.form
 refine ⟨A1,k1,A2,k2,rfl,hC.keep (hfr.block b0 hb02 hc0) hfr.size,?_⟩
 refine jam.wrote hst (fun b hb=>hold b (Nat.lt_of_lt_of_le hb hF.size)) hb0 ((hold b0 hb02).trans hc0) (hF.trans hfr (fun _ _=>rfl)) ⟨_,_,rfl,?_,?_⟩
 ·exact (ha'.keep fun p hp=>World.cell?_of_block (jhm _ _ _ _ _ _ _ _ (by have:=hp.1;omega))).more fun q hq=>⟨Nat.le_trans hF.size hq.1,by rw [jl8];exact hq.2.1,hq.2.2⟩
 ·exact (ht'.keep fun p hp=>World.cell?_of_block (jhm _ _ _ _ _ _ _ _ (by have:=hp.1;omega))).more fun q hq=>⟨Nat.le_trans hF.size hq.1,by rw [jl8];exact hq.2.1,hq.2.2⟩
theorem SessC.atX {w:World} {c:Nat→Nat} {n:Nat} {x:SessD} {vd vt vg vr:Value} (h:SessC w c n x vd vt vg vr):jhb w (fun b=>c b≠0∧c b≠1) x (.agg #[.bool x.opn,.bool x.strict,.int .i64 x.frm,vd,vt,vg,vr]) :=
 ⟨vd,vt,vg,vr,rfl,h.doms.more fun b hb=>by have e:c b=11:=hb;omega,h.tabs.more fun b hb=>by have e:c b=11:=hb;omega,h.gone.sl fun b hb=>by have e:=h.goneC b hb;omega,h.read.sl fun b hb=>by have e:=h.readC b hb;omega⟩
theorem StoreC.tick {w:World} {c:Nat→Nat} {g:Nat} {σ:StoreD} {vs:List Value} {vl:Value} (h:StoreC w c g σ vs vl) (ha:σ.acts<200):StoreC (w.setCell ⟨g,29,none⟩ (.int .i64 ((σ.acts:Int)+1))) c g (jbj σ) (vs.set 29 (.int .i64 ((σ.acts:Int)+1))) vl:=by
 have hl:=h.len
 have hg:=h.col
 have hk:∀ b,b≠g→(w.setCell ⟨g,29,none⟩ (.int .i64 ((σ.acts:Int)+1))).heap[b]? = w.heap[b]?:=fun b hb=>RowKit.Below.heap_setCell _ _ _ _ hb
 exact
 {cs:=h.cs.set 29 (by omega) _
  len:=by simp [hl]
  col:=hg
  lt:=fun b hb=>by have:=h.lt b hb;simpa [World.setCell] using this
  row:=h.row.keep (fun k hk'=>hk k (fun e=>by have:=h.rowC k hk';rw [e,hg] at this;omega)) (fun k hk'=>hk k (fun e=>by have e1:c k=11:=hk';rw [e,hg] at e1;omega))
  rowC:=h.rowC
  v0:=by rw [List.getElem?_set_ne (by decide)];exact h.v0
  sess:=fun n x hx=>by
   have hx':σ.sess[n]? = some x:=hx
   have hn:n<4:=by have:=(List.getElem?_eq_some_iff.1 hx').1;have:=h.inv.four;omega
   obtain ⟨vd,vt,vg,vr,h1,h2⟩:=h.sess n x hx
   refine ⟨vd,vt,vg,vr,h1.keep fun b hb=>⟨hk b (fun e=>by rw [e,hg] at hb;omega),rfl⟩,fun j v hj=>?_⟩
   have hj7:j<7:=by have:=(List.getElem?_eq_some_iff.1 hj).1;exact this
   rw [List.getElem?_set_ne (by omega)]
   exact h2 j v hj
  acts:=by rw [List.getElem?_set_self (by omega)];show some _=some (Value.int .i64 (((σ.acts+1:Nat)):Int));simp
  inv:=h.inv.tick ha
  one:=h.one }
open Go.RowKit Go.Shelf
theorem ylz (σ:StoreD) (c:Nat→Nat) (g n:Nat) (vs:List Value) (vl:Value) (m:Int) (name text:ByteArray) (inp:List Int) (va:Value) (w:World) (h:StoreC w c g σ vs vl) (hv:VarsOk w) (hvc:jc0 c) (hn:n<4) (ha:jgy w (fun b=>b<w.heap.size∧c b=0) ⟨2,m,name,text,inp⟩ va)
  (hs2:text.size≤140737488355328) (hI:Inv (ja8 σ n ⟨2,m,name,text,inp⟩).1) :
  Calls Tryz.prog 44 #[.pointer (some ⟨g,0,none⟩),.pointer (some ⟨g,1+n*7,none⟩),va] w (jam w c g (ja8 σ n ⟨2,m,name,text,inp⟩)):=by
 have HH:=Lib.hid h
 have HCL:=Lib.hid h.lt
 have HV:=Lib.hid hv
 have HVC:=Lib.hid hvc
 have HX:Hid (σ.sess[n]? = some (σ.sessN n)):=je5 h.inv hn
 have HSO:=Lib.hid (h.inv.at n)
 have HIV:=Lib.hid h.inv
 have hcg:c g≠0:=by rw [h.col];decide
 have hgw:g<w.heap.size:=h.cs.1
 obtain ⟨vi,rfl,hi⟩:=ha
 simp only at hi
 have HIN:=Lib.hid hi
 obtain ⟨Ai,ci,rfl,-,-⟩:=hi.form
 clear h hv hvc hi
 have HI:=Lib.hid hI
 clear hI
 have HE:Hid (ja8 σ n ⟨2,m,name,text,inp⟩=(jaq σ n (putV (σ.sessN n) text).1,(putV (σ.sessN n) text).2)):=by show _=_;rfl
 have HI2:Hid (Inv ((jaq σ n (putV (σ.sessN n) text).1,(putV (σ.sessN n) text).2)).1):=by have:=HI.out;rw [HE.out] at this;exact this
 generalize ja8 σ n ⟨2,m,name,text,inp⟩=PV at *
 have hb0:=jac w (.cells #[.int .i64 2,.int .i64 m,.string name,.string text,.slice Ai inp.length ci] 24)
 have B0:=Lib.hid (Cs.new w [.int .i64 2,.int .i64 m,.string name,.string text,.slice Ai inp.length ci] 24)
 have hz0:(w.alloc (.cells #[.int .i64 2,.int .i64 m,.string name,.string text,.slice Ai inp.length ci] 24)).heap.size=w.heap.size+1:=by simp
 change Hid (Cs (w.alloc (.cells #[.int .i64 2,.int .i64 m,.string name,.string text,.slice Ai inp.length ci] 24)) _ _) at B0
 generalize hw0:w.alloc (.cells #[.int .i64 2,.int .i64 m,.string name,.string text,.slice Ai inp.length ci] 24)=w0 at *
 have hb1:=jac w0 (.cells #[.int .i64 0,.int .i64 0,.string ⟨#[]⟩,.slice none 0 0,.slice none 0 0] 30)
 have C1:=Lib.hid (Cs.new w0 zeroRL 30)
 have hz1:(w0.alloc (.cells #[.int .i64 0,.int .i64 0,.string ⟨#[]⟩,.slice none 0 0,.slice none 0 0] 30)).heap.size=w.heap.size+2:=by simp;omega
 change Hid (Cs (w0.alloc (.cells #[.int .i64 0,.int .i64 0,.string ⟨#[]⟩,.slice none 0 0,.slice none 0 0] 30)) _ _) at C1
 rw [hz0] at C1
 have B1:=Lib.hid (B0.out.next hb1)
 have hb01:=bx hb0 hb1
 generalize hw1:w0.alloc (.cells #[.int .i64 0,.int .i64 0,.string ⟨#[]⟩,.slice none 0 0,.slice none 0 0] 30)=w1 at *
 have H1:=Lib.hid (HH.out.next hb01)
 have HV1:=Lib.hid (HV.out.next hb01)
 have k0:=B1.out.at 0 rfl
 have k1:=B1.out.at 1 rfl
 have k2:=B1.out.at 2 rfl
 have k3:=B1.out.at 3 rfl
 have k4:=B1.out.at 4 rfl
 have hIN1:Hid (Sl Enc.int w1 (fun b=>b<w1.heap.size∧c b=0) inp (.slice Ai inp.length ci)):=(HIN.out.keep (w':=w1) fun p hp=>World.cell?_of_block (hb01.block _ hp.1)).more fun q hq=>⟨by have:=hq.1;omega,hq.2⟩
 have hc1:c (w.heap.size+1)=0:=jb1 HCL.out (by omega)
 go_enter Tryz.func44,Tryz.ntmps44
 go_wp2_with fail
 clear hw0 hw1 k0 k1 k2 k3 k4
 refine (ym3 σ c g n vs vl (σ.sessN n) text _ H1.out HV1.out HX.out hs2 HI2.out).mono ?_
 rintro e w3 hP
 rw [← HE.out] at hP
 obtain ⟨A1,q1,A2,q2,rfl,hC3,hP3⟩:=hP.up (Fr.below hb01) (b0:=w.heap.size+1) (by omega) (by omega) hc1 C1.out
 have C3:=Lib.hid hC3
 have HP3:=Lib.hid hP3
 clear hP hC3 hP3
 have r0:=C3.out.at 0 rfl
 have r1:=C3.out.at 1 rfl
 have r2:=C3.out.at 2 rfl
 have r3:=C3.out.at 3 rfl
 have r4:=C3.out.at 4 rfl
 have f0:=C3.out.2.2 0 (by simp)
 have f1:=C3.out.2.2 1 (by simp)
 have f2:=C3.out.2.2 2 (by simp)
 have f3:=C3.out.2.2 3 (by simp)
 have f4:=C3.out.2.2 4 (by simp)
 go_wp2
 (try simp only [Exit.inBlock,Exit.then])
 exact bodyPost_ret (jaz (b:=w.heap.size+1) rfl rfl (jbs C3.out _ _ _ _ _)) rfl HP3.out
theorem yl0 (σ:StoreD) (c:Nat→Nat) (g n:Nat) (vs:List Value) (vl:Value) (m:Int) (name text:ByteArray) (inp:List Int) (va:Value) (w:World) (h:StoreC w c g σ vs vl) (hv:VarsOk w) (hvc:jc0 c) (hn:n<4) (ha:jgy w (fun b=>b<w.heap.size∧c b=0) ⟨3,m,name,text,inp⟩ va)
  (hs1:name.size≤140737488355328) (hI:Inv (ja8 σ n ⟨3,m,name,text,inp⟩).1) :
  Calls Tryz.prog 44 #[.pointer (some ⟨g,0,none⟩),.pointer (some ⟨g,1+n*7,none⟩),va] w (jam w c g (ja8 σ n ⟨3,m,name,text,inp⟩)):=by
 have HH:=Lib.hid h
 have HCL:=Lib.hid h.lt
 have HV:=Lib.hid hv
 have HVC:=Lib.hid hvc
 have HX:Hid (σ.sess[n]? = some (σ.sessN n)):=je5 h.inv hn
 have HSO:=Lib.hid (h.inv.at n)
 have HIV:=Lib.hid h.inv
 have hcg:c g≠0:=by rw [h.col];decide
 have hgw:g<w.heap.size:=h.cs.1
 obtain ⟨vi,rfl,hi⟩:=ha
 simp only at hi
 have HIN:=Lib.hid hi
 obtain ⟨Ai,ci,rfl,-,-⟩:=hi.form
 clear h hv hvc hi
 have HI:=Lib.hid hI
 clear hI
 have HE:Hid (ja8 σ n ⟨3,m,name,text,inp⟩=(jaq σ n (jky (σ.sessN n) name).1,(jky (σ.sessN n) name).2)):=by show _=_;rfl
 have HI2:Hid (Inv ((jaq σ n (jky (σ.sessN n) name).1,(jky (σ.sessN n) name).2)).1):=by have:=HI.out;rw [HE.out] at this;exact this
 generalize ja8 σ n ⟨3,m,name,text,inp⟩=PV at *
 have hb0:=jac w (.cells #[.int .i64 3,.int .i64 m,.string name,.string text,.slice Ai inp.length ci] 24)
 have B0:=Lib.hid (Cs.new w [.int .i64 3,.int .i64 m,.string name,.string text,.slice Ai inp.length ci] 24)
 have hz0:(w.alloc (.cells #[.int .i64 3,.int .i64 m,.string name,.string text,.slice Ai inp.length ci] 24)).heap.size=w.heap.size+1:=by simp
 change Hid (Cs (w.alloc (.cells #[.int .i64 3,.int .i64 m,.string name,.string text,.slice Ai inp.length ci] 24)) _ _) at B0
 generalize hw0:w.alloc (.cells #[.int .i64 3,.int .i64 m,.string name,.string text,.slice Ai inp.length ci] 24)=w0 at *
 have hb1:=jac w0 (.cells #[.int .i64 0,.int .i64 0,.string ⟨#[]⟩,.slice none 0 0,.slice none 0 0] 30)
 have C1:=Lib.hid (Cs.new w0 zeroRL 30)
 have hz1:(w0.alloc (.cells #[.int .i64 0,.int .i64 0,.string ⟨#[]⟩,.slice none 0 0,.slice none 0 0] 30)).heap.size=w.heap.size+2:=by simp;omega
 change Hid (Cs (w0.alloc (.cells #[.int .i64 0,.int .i64 0,.string ⟨#[]⟩,.slice none 0 0,.slice none 0 0] 30)) _ _) at C1
 rw [hz0] at C1
 have B1:=Lib.hid (B0.out.next hb1)
 have hb01:=bx hb0 hb1
 generalize hw1:w0.alloc (.cells #[.int .i64 0,.int .i64 0,.string ⟨#[]⟩,.slice none 0 0,.slice none 0 0] 30)=w1 at *
 have H1:=Lib.hid (HH.out.next hb01)
 have HV1:=Lib.hid (HV.out.next hb01)
 have k0:=B1.out.at 0 rfl
 have k1:=B1.out.at 1 rfl
 have k2:=B1.out.at 2 rfl
 have k3:=B1.out.at 3 rfl
 have k4:=B1.out.at 4 rfl
 have hIN1:Hid (Sl Enc.int w1 (fun b=>b<w1.heap.size∧c b=0) inp (.slice Ai inp.length ci)):=(HIN.out.keep (w':=w1) fun p hp=>World.cell?_of_block (hb01.block _ hp.1)).more fun q hq=>⟨by have:=hq.1;omega,hq.2⟩
 have hc1:c (w.heap.size+1)=0:=jb1 HCL.out (by omega)
 go_enter Tryz.func44,Tryz.ntmps44
 go_wp2_with fail
 clear hw0 hw1 k0 k1 k2 k3 k4
 refine (yil σ c g n vs vl (σ.sessN n) name _ H1.out HX.out hs1 HI2.out).mono ?_
 rintro e w3 hP
 rw [← HE.out] at hP
 obtain ⟨A1,q1,A2,q2,rfl,hC3,hP3⟩:=hP.up (Fr.below hb01) (b0:=w.heap.size+1) (by omega) (by omega) hc1 C1.out
 have C3:=Lib.hid hC3
 have HP3:=Lib.hid hP3
 clear hP hC3 hP3
 have r0:=C3.out.at 0 rfl
 have r1:=C3.out.at 1 rfl
 have r2:=C3.out.at 2 rfl
 have r3:=C3.out.at 3 rfl
 have r4:=C3.out.at 4 rfl
 have f0:=C3.out.2.2 0 (by simp)
 have f1:=C3.out.2.2 1 (by simp)
 have f2:=C3.out.2.2 2 (by simp)
 have f3:=C3.out.2.2 3 (by simp)
 have f4:=C3.out.2.2 4 (by simp)
 go_wp2
 (try simp only [Exit.inBlock,Exit.then])
 exact bodyPost_ret (jaz (b:=w.heap.size+1) rfl rfl (jbs C3.out _ _ _ _ _)) rfl HP3.out
theorem yl1 (σ:StoreD) (c:Nat→Nat) (g n:Nat) (vs:List Value) (vl:Value) (m:Int) (name text:ByteArray) (inp:List Int) (va:Value) (w:World) (h:StoreC w c g σ vs vl) (hv:VarsOk w) (hvc:jc0 c) (hn:n<4) (ha:jgy w (fun b=>b<w.heap.size∧c b=0) ⟨4,m,name,text,inp⟩ va)
  (hs1:name.size≤140737488355328) (hI:Inv (ja8 σ n ⟨4,m,name,text,inp⟩).1) :
  Calls Tryz.prog 44 #[.pointer (some ⟨g,0,none⟩),.pointer (some ⟨g,1+n*7,none⟩),va] w (jam w c g (ja8 σ n ⟨4,m,name,text,inp⟩)):=by
 have HH:=Lib.hid h
 have HCL:=Lib.hid h.lt
 have HV:=Lib.hid hv
 have HVC:=Lib.hid hvc
 have HX:Hid (σ.sess[n]? = some (σ.sessN n)):=je5 h.inv hn
 have HSO:=Lib.hid (h.inv.at n)
 have HIV:=Lib.hid h.inv
 have hcg:c g≠0:=by rw [h.col];decide
 have hgw:g<w.heap.size:=h.cs.1
 obtain ⟨vi,rfl,hi⟩:=ha
 simp only at hi
 have HIN:=Lib.hid hi
 obtain ⟨Ai,ci,rfl,-,-⟩:=hi.form
 clear h hv hvc hi
 have HI:=Lib.hid hI
 clear hI
 have HE:Hid (ja8 σ n ⟨4,m,name,text,inp⟩=(jaq σ n (getV σ (σ.sessN n) name).1,(getV σ (σ.sessN n) name).2)):=by show _=_;rfl
 have HI2:Hid (Inv ((jaq σ n (getV σ (σ.sessN n) name).1,(getV σ (σ.sessN n) name).2)).1):=by have:=HI.out;rw [HE.out] at this;exact this
 generalize ja8 σ n ⟨4,m,name,text,inp⟩=PV at *
 have hb0:=jac w (.cells #[.int .i64 4,.int .i64 m,.string name,.string text,.slice Ai inp.length ci] 24)
 have B0:=Lib.hid (Cs.new w [.int .i64 4,.int .i64 m,.string name,.string text,.slice Ai inp.length ci] 24)
 have hz0:(w.alloc (.cells #[.int .i64 4,.int .i64 m,.string name,.string text,.slice Ai inp.length ci] 24)).heap.size=w.heap.size+1:=by simp
 change Hid (Cs (w.alloc (.cells #[.int .i64 4,.int .i64 m,.string name,.string text,.slice Ai inp.length ci] 24)) _ _) at B0
 generalize hw0:w.alloc (.cells #[.int .i64 4,.int .i64 m,.string name,.string text,.slice Ai inp.length ci] 24)=w0 at *
 have hb1:=jac w0 (.cells #[.int .i64 0,.int .i64 0,.string ⟨#[]⟩,.slice none 0 0,.slice none 0 0] 30)
 have C1:=Lib.hid (Cs.new w0 zeroRL 30)
 have hz1:(w0.alloc (.cells #[.int .i64 0,.int .i64 0,.string ⟨#[]⟩,.slice none 0 0,.slice none 0 0] 30)).heap.size=w.heap.size+2:=by simp;omega
 change Hid (Cs (w0.alloc (.cells #[.int .i64 0,.int .i64 0,.string ⟨#[]⟩,.slice none 0 0,.slice none 0 0] 30)) _ _) at C1
 rw [hz0] at C1
 have B1:=Lib.hid (B0.out.next hb1)
 have hb01:=bx hb0 hb1
 generalize hw1:w0.alloc (.cells #[.int .i64 0,.int .i64 0,.string ⟨#[]⟩,.slice none 0 0,.slice none 0 0] 30)=w1 at *
 have H1:=Lib.hid (HH.out.next hb01)
 have HV1:=Lib.hid (HV.out.next hb01)
 have k0:=B1.out.at 0 rfl
 have k1:=B1.out.at 1 rfl
 have k2:=B1.out.at 2 rfl
 have k3:=B1.out.at 3 rfl
 have k4:=B1.out.at 4 rfl
 have hIN1:Hid (Sl Enc.int w1 (fun b=>b<w1.heap.size∧c b=0) inp (.slice Ai inp.length ci)):=(HIN.out.keep (w':=w1) fun p hp=>World.cell?_of_block (hb01.block _ hp.1)).more fun q hq=>⟨by have:=hq.1;omega,hq.2⟩
 have hc1:c (w.heap.size+1)=0:=jb1 HCL.out (by omega)
 go_enter Tryz.func44,Tryz.ntmps44
 go_wp2_with fail
 clear hw0 hw1 k0 k1 k2 k3 k4
 refine (ym2 σ c g n vs vl (σ.sessN n) name _ H1.out HV1.out HVC.out HX.out hs1 HI2.out).mono ?_
 rintro e w3 hP
 rw [← HE.out] at hP
 obtain ⟨A1,q1,A2,q2,rfl,hC3,hP3⟩:=hP.up (Fr.below hb01) (b0:=w.heap.size+1) (by omega) (by omega) hc1 C1.out
 have C3:=Lib.hid hC3
 have HP3:=Lib.hid hP3
 clear hP hC3 hP3
 have r0:=C3.out.at 0 rfl
 have r1:=C3.out.at 1 rfl
 have r2:=C3.out.at 2 rfl
 have r3:=C3.out.at 3 rfl
 have r4:=C3.out.at 4 rfl
 have f0:=C3.out.2.2 0 (by simp)
 have f1:=C3.out.2.2 1 (by simp)
 have f2:=C3.out.2.2 2 (by simp)
 have f3:=C3.out.2.2 3 (by simp)
 have f4:=C3.out.2.2 4 (by simp)
 go_wp2
 (try simp only [Exit.inBlock,Exit.then])
 exact bodyPost_ret (jaz (b:=w.heap.size+1) rfl rfl (jbs C3.out _ _ _ _ _)) rfl HP3.out
theorem yl2 (σ:StoreD) (c:Nat→Nat) (g n:Nat) (vs:List Value) (vl:Value) (m:Int) (name text:ByteArray) (inp:List Int) (va:Value) (w:World) (h:StoreC w c g σ vs vl) (hv:VarsOk w) (hvc:jc0 c) (hn:n<4) (ha:jgy w (fun b=>b<w.heap.size∧c b=0) ⟨5,m,name,text,inp⟩ va)
  (hI:Inv (ja8 σ n ⟨5,m,name,text,inp⟩).1) (hrs:(σ.sessN n).read.length+1000≤1000 * σ.acts) :
  Calls Tryz.prog 44 #[.pointer (some ⟨g,0,none⟩),.pointer (some ⟨g,1+n*7,none⟩),va] w (jam w c g (ja8 σ n ⟨5,m,name,text,inp⟩)):=by
 have HH:=Lib.hid h
 have HCL:=Lib.hid h.lt
 have HV:=Lib.hid hv
 have HVC:=Lib.hid hvc
 have HX:Hid (σ.sess[n]? = some (σ.sessN n)):=je5 h.inv hn
 have HSO:=Lib.hid (h.inv.at n)
 have HIV:=Lib.hid h.inv
 have hcg:c g≠0:=by rw [h.col];decide
 have hgw:g<w.heap.size:=h.cs.1
 obtain ⟨vi,rfl,hi⟩:=ha
 simp only at hi
 have HIN:=Lib.hid hi
 obtain ⟨Ai,ci,rfl,-,-⟩:=hi.form
 clear h hv hvc hi
 have HI:=Lib.hid hI
 clear hI
 have HE:Hid (ja8 σ n ⟨5,m,name,text,inp⟩=(jaq σ n (jpi σ (σ.sessN n) inp).1,(jpi σ (σ.sessN n) inp).2)):=by show _=_;rfl
 have HI2:Hid (Inv ((jaq σ n (jpi σ (σ.sessN n) inp).1,(jpi σ (σ.sessN n) inp).2)).1):=by have:=HI.out;rw [HE.out] at this;exact this
 generalize ja8 σ n ⟨5,m,name,text,inp⟩=PV at *
 have hb0:=jac w (.cells #[.int .i64 5,.int .i64 m,.string name,.string text,.slice Ai inp.length ci] 24)
 have B0:=Lib.hid (Cs.new w [.int .i64 5,.int .i64 m,.string name,.string text,.slice Ai inp.length ci] 24)
 have hz0:(w.alloc (.cells #[.int .i64 5,.int .i64 m,.string name,.string text,.slice Ai inp.length ci] 24)).heap.size=w.heap.size+1:=by simp
 change Hid (Cs (w.alloc (.cells #[.int .i64 5,.int .i64 m,.string name,.string text,.slice Ai inp.length ci] 24)) _ _) at B0
 generalize hw0:w.alloc (.cells #[.int .i64 5,.int .i64 m,.string name,.string text,.slice Ai inp.length ci] 24)=w0 at *
 have hb1:=jac w0 (.cells #[.int .i64 0,.int .i64 0,.string ⟨#[]⟩,.slice none 0 0,.slice none 0 0] 30)
 have C1:=Lib.hid (Cs.new w0 zeroRL 30)
 have hz1:(w0.alloc (.cells #[.int .i64 0,.int .i64 0,.string ⟨#[]⟩,.slice none 0 0,.slice none 0 0] 30)).heap.size=w.heap.size+2:=by simp;omega
 change Hid (Cs (w0.alloc (.cells #[.int .i64 0,.int .i64 0,.string ⟨#[]⟩,.slice none 0 0,.slice none 0 0] 30)) _ _) at C1
 rw [hz0] at C1
 have B1:=Lib.hid (B0.out.next hb1)
 have hb01:=bx hb0 hb1
 generalize hw1:w0.alloc (.cells #[.int .i64 0,.int .i64 0,.string ⟨#[]⟩,.slice none 0 0,.slice none 0 0] 30)=w1 at *
 have H1:=Lib.hid (HH.out.next hb01)
 have HV1:=Lib.hid (HV.out.next hb01)
 have k0:=B1.out.at 0 rfl
 have k1:=B1.out.at 1 rfl
 have k2:=B1.out.at 2 rfl
 have k3:=B1.out.at 3 rfl
 have k4:=B1.out.at 4 rfl
 have hIN1:Hid (Sl Enc.int w1 (fun b=>b<w1.heap.size∧c b=0) inp (.slice Ai inp.length ci)):=(HIN.out.keep (w':=w1) fun p hp=>World.cell?_of_block (hb01.block _ hp.1)).more fun q hq=>⟨by have:=hq.1;omega,hq.2⟩
 have hc1:c (w.heap.size+1)=0:=jb1 HCL.out (by omega)
 go_enter Tryz.func44,Tryz.ntmps44
 go_wp2_with fail
 clear hw0 hw1 k0 k1 k2 k3 k4
 refine (ym1 σ c g n vs vl (σ.sessN n) inp _ _ H1.out HX.out hIN1.out hrs HI2.out).mono ?_
 rintro e w3 hP
 rw [← HE.out] at hP
 obtain ⟨A1,q1,A2,q2,rfl,hC3,hP3⟩:=hP.up (Fr.below hb01) (b0:=w.heap.size+1) (by omega) (by omega) hc1 C1.out
 have C3:=Lib.hid hC3
 have HP3:=Lib.hid hP3
 clear hP hC3 hP3
 have r0:=C3.out.at 0 rfl
 have r1:=C3.out.at 1 rfl
 have r2:=C3.out.at 2 rfl
 have r3:=C3.out.at 3 rfl
 have r4:=C3.out.at 4 rfl
 have f0:=C3.out.2.2 0 (by simp)
 have f1:=C3.out.2.2 1 (by simp)
 have f2:=C3.out.2.2 2 (by simp)
 have f3:=C3.out.2.2 3 (by simp)
 have f4:=C3.out.2.2 4 (by simp)
 go_wp2
 (try simp only [Exit.inBlock,Exit.then])
 exact bodyPost_ret (jaz (b:=w.heap.size+1) rfl rfl (jbs C3.out _ _ _ _ _)) rfl HP3.out
open Go.RowKit Go.Shelf
theorem VarsOk.drewS {w:World} (h:VarsOk w):VarsOk w.drew:=h.next ((Below.refl _ _).drew)
theorem yq9 (σ:StoreD) (c:Nat→Nat) (g:Nat) (vs:List Value) (vl:Value) (a:ActD) (va:Value) (w:World) (h:StoreC w c g σ vs vl) (hv:VarsOk w) (hvc:jc0 c) (ha:jgy w (fun b=>b<w.heap.size∧c b=0) a va)
  (hr:200 ≤ σ.acts∨¬ (2≤a.kind∧a.kind≤7)) :
  Calls Tryz.prog 15 #[.pointer (some ⟨g,0,none⟩),va] w (jam w c g (doV σ a)):=by
 have HH:=Lib.hid h
 have HCL:=Lib.hid h.lt
 have HV:=Lib.hid hv
 have HVC:=Lib.hid hvc
 have HIV:=Lib.hid h.inv
 have hcg:c g≠0:=by rw [h.col];decide
 have hgw:g<w.heap.size:=h.cs.1
 have hac:=h.inv.acts
 obtain ⟨kind,m,name,text,inp⟩:=a
 obtain ⟨vi,rfl,hi⟩:=ha
 simp only at hi hr
 have HIN:=Lib.hid hi
 obtain ⟨Ai,ci,rfl,-,-⟩:=hi.form
 clear h hv hvc hi
 have hb0:=jac w (.cells #[.int .i64 kind,.int .i64 m,.string name,.string text,.slice Ai inp.length ci] 24)
 have B0:=Lib.hid (Cs.new w [.int .i64 kind,.int .i64 m,.string name,.string text,.slice Ai inp.length ci] 24)
 have hz0:(w.alloc (.cells #[.int .i64 kind,.int .i64 m,.string name,.string text,.slice Ai inp.length ci] 24)).heap.size=w.heap.size+1:=by simp
 change Hid (Cs (w.alloc (.cells #[.int .i64 kind,.int .i64 m,.string name,.string text,.slice Ai inp.length ci] 24)) _ _) at B0
 generalize hw0:w.alloc (.cells #[.int .i64 kind,.int .i64 m,.string name,.string text,.slice Ai inp.length ci] 24)=w0 at *
 have hb1:=jac w0 (.cells #[.int .i64 0,.int .i64 0,.string ⟨#[]⟩,.slice none 0 0,.slice none 0 0] 30)
 have C1:=Lib.hid (Cs.new w0 zeroRL 30)
 have hz1:(w0.alloc (.cells #[.int .i64 0,.int .i64 0,.string ⟨#[]⟩,.slice none 0 0,.slice none 0 0] 30)).heap.size=w.heap.size+2:=by simp;omega
 change Hid (Cs (w0.alloc (.cells #[.int .i64 0,.int .i64 0,.string ⟨#[]⟩,.slice none 0 0,.slice none 0 0] 30)) _ _) at C1
 rw [hz0] at C1
 have B1:=Lib.hid (B0.out.next hb1)
 have hb01:=bx hb0 hb1
 generalize hw1:w0.alloc (.cells #[.int .i64 0,.int .i64 0,.string ⟨#[]⟩,.slice none 0 0,.slice none 0 0] 30)=w1 at *
 have H1:=Lib.hid (HH.out.next hb01)
 have HV1:=Lib.hid (HV.out.next hb01)
 have k0:=B1.out.at 0 rfl
 have k1:=B1.out.at 1 rfl
 have k2:=B1.out.at 2 rfl
 have k3:=B1.out.at 3 rfl
 have k4:=B1.out.at 4 rfl
 have hIN1:Hid (Sl Enc.int w1 (fun b=>b<w1.heap.size∧c b=0) inp (.slice Ai inp.length ci)):=(HIN.out.keep (w':=w1) fun p hp=>World.cell?_of_block (hb01.block _ hp.1)).more fun q hq=>⟨by have:=hq.1;omega,hq.2⟩
 have hc1:c (w.heap.size+1)=0:=jb1 HCL.out (by omega)
 have q29:w1.cell? ⟨g,29,none⟩=some (.int .i64 σ.acts):=H1.out.cs.at 29 H1.out.acts
 have z29:w1.frozen? ⟨g,29,none⟩=false:=H1.out.cs.2.2 29 (by rw [H1.out.len];decide)
 by_cases hfull:200 ≤ σ.acts
 ·have HE:Hid (doV σ ⟨kind,m,name,text,inp⟩=(σ,jb8 11)):=by show _=_;unfold doV;rw [if_pos hfull]
  have hfi:(200:Int)≤(σ.acts:Int):=by omega
  have r0:=C1.out.at 0 rfl
  have r1:=C1.out.at 1 rfl
  have r2:=C1.out.at 2 rfl
  have r3:=C1.out.at 3 rfl
  have r4:=C1.out.at 4 rfl
  have f0:=C1.out.2.2 0 (by simp)
  have f1:=C1.out.2.2 1 (by simp)
  have f2:=C1.out.2.2 2 (by simp)
  have f3:=C1.out.2.2 3 (by simp)
  have f4:=C1.out.2.2 4 (by simp)
  go_enter Tryz.func15,Tryz.ntmps15
  go_wp2
  (try simp only [Exit.inBlock,Exit.then])
  refine bodyPost_ret (jaz (b:=w.heap.size+1) rfl rfl (jbs C1.out _ _ _ _ _)) rfl ?_
  rw [HE.out]
  exact jam.wrote H1.out (fun _ _=>rfl) (by omega) hc1 (Fr.below hb01) (jb0.plain 11 0 _)
 ·have hfi:¬ (200:Int)≤(σ.acts:Int):=by omega
  have hwa:IntKind.i64.wrap ((σ.acts:Int)+1)=(σ.acts:Int)+1:=by rw [IntKind.wrap_i64];omega
  have H2:Hid (∃ vs2,StoreC (w1.setCell ⟨g,29,none⟩ (.int .i64 ((σ.acts:Int)+1))) c g (jbj σ) vs2 vl):=⟨_,H1.out.tick (by omega)⟩
  have hF2:Hid (Fr c w (w1.setCell ⟨g,29,none⟩ (.int .i64 ((σ.acts:Int)+1)))):=(Fr.below hb01).trans (Fr.set c w1 g 29 _ hcg) (fun _ _=>rfl)
  have HV2:=Lib.hid (HV.out.fr HVC.out hF2.out)
  have hne0:w.heap.size≠g:=by omega
  have hne1:w.heap.size+1≠g:=by omega
  have hz2:(w1.setCell ⟨g,29,none⟩ (.int .i64 ((σ.acts:Int)+1))).heap.size=w.heap.size+2:=by simp [World.setCell];exact hz1
  have C2:=Lib.hid (C1.out.keep (w':=w1.setCell ⟨g,29,none⟩ (.int .i64 ((σ.acts:Int)+1))) (RowKit.Below.heap_setCell _ _ _ _ hne1) (by simp [World.setCell]))
  have B2:=Lib.hid (B1.out.keep (w':=w1.setCell ⟨g,29,none⟩ (.int .i64 ((σ.acts:Int)+1))) (RowKit.Below.heap_setCell _ _ _ _ hne0) (by simp [World.setCell]))
  have hIN2:Hid (Sl Enc.int (w1.setCell ⟨g,29,none⟩ (.int .i64 ((σ.acts:Int)+1))) (fun b=>b<(w1.setCell ⟨g,29,none⟩ (.int .i64 ((σ.acts:Int)+1))).heap.size∧c b=0) inp (.slice Ai inp.length ci)):=(hIN1.out.keep (w':=w1.setCell ⟨g,29,none⟩ (.int .i64 ((σ.acts:Int)+1))) fun p hp=>World.cell?_of_block (RowKit.Below.heap_setCell _ _ _ _ (fun e=>hcg (by have e2:p.block=g:=e;rw [← e2];exact hp.2)))).more fun q hq=>⟨by have:=hq.1;omega,hq.2⟩
  have e0:=B2.out.at 0 rfl
  have e1:=B2.out.at 1 rfl
  have e2:=B2.out.at 2 rfl
  have e3:=B2.out.at 3 rfl
  have e4:=B2.out.at 4 rfl
  by_cases k1':kind=1
  ·subst k1'
   have HE:Hid (doV σ ⟨1,m,name,text,inp⟩=jmt (jbj σ) m):=by show _=_;unfold doV;rw [if_neg hfull];rfl
   generalize doV σ ⟨1,m,name,text,inp⟩=PV at *
   go_enter Tryz.func15,Tryz.ntmps15
   go_wp2_with fail
   clear hw0 hw1 k0 k1 k2 k3 k4 e0 e1 e2 e3 e4 q29 z29
   generalize w1.setCell ⟨g,29,none⟩ (.int .i64 ((σ.acts:Int)+1))=w2 at *
   obtain ⟨vs2,hst2⟩:=H2.out
   refine (yim (jbj σ) c g vs2 vl _ hst2 m).mono ?_
   rintro e w3 hP
   rw [← HE.out] at hP
   obtain ⟨A1,q1,A2,q2,rfl,hC3,hP3⟩:=hP.up hF2.out (b0:=w.heap.size+1) (by omega) (by omega) hc1 C2.out
   have C3:=Lib.hid hC3
   have HP3:=Lib.hid hP3
   clear hP hC3 hP3
   have r0:=C3.out.at 0 rfl
   have r1:=C3.out.at 1 rfl
   have r2:=C3.out.at 2 rfl
   have r3:=C3.out.at 3 rfl
   have r4:=C3.out.at 4 rfl
   have f0:=C3.out.2.2 0 (by simp)
   have f1:=C3.out.2.2 1 (by simp)
   have f2:=C3.out.2.2 2 (by simp)
   have f3:=C3.out.2.2 3 (by simp)
   have f4:=C3.out.2.2 4 (by simp)
   go_wp2
   (try simp only [Exit.inBlock,Exit.then])
   exact bodyPost_ret (jaz (b:=w.heap.size+1) rfl rfl (jbs C3.out _ _ _ _ _)) rfl HP3.out
  ·have hk:¬ (2≤kind∧kind≤7):=by
    rcases hr with hr | hr
    ·exact absurd hr hfull
    ·exact hr
   have HE:Hid (doV σ ⟨kind,m,name,text,inp⟩=(jbj σ,jb8 10)):=by show _=_;unfold doV;rw [if_neg hfull,if_neg k1',if_neg hk]
   have n1:(kind == 1)=false:=by rw [beq_eq_false_iff_ne];exact k1'
   have n2:(kind == 2)=false:=by rw [beq_eq_false_iff_ne];omega
   have n3:(kind == 3)=false:=by rw [beq_eq_false_iff_ne];omega
   have n4:(kind == 4)=false:=by rw [beq_eq_false_iff_ne];omega
   have n5:(kind == 5)=false:=by rw [beq_eq_false_iff_ne];omega
   have n6:(kind == 6)=false:=by rw [beq_eq_false_iff_ne];omega
   have n7:(kind == 7)=false:=by rw [beq_eq_false_iff_ne];omega
   generalize doV σ ⟨kind,m,name,text,inp⟩=PV at *
   clear hk k1'
   have r0:=C2.out.at 0 rfl
   have r1:=C2.out.at 1 rfl
   have r2:=C2.out.at 2 rfl
   have r3:=C2.out.at 3 rfl
   have r4:=C2.out.at 4 rfl
   have f0:=C2.out.2.2 0 (by simp)
   have f1:=C2.out.2.2 1 (by simp)
   have f2:=C2.out.2.2 2 (by simp)
   have f3:=C2.out.2.2 3 (by simp)
   have f4:=C2.out.2.2 4 (by simp)
   go_enter Tryz.func15,Tryz.ntmps15
   go_wp2
   (try simp only [Exit.inBlock,Exit.then])
   refine bodyPost_ret (jaz (b:=w.heap.size+1) rfl rfl (jbs C2.out _ _ _ _ _)) rfl ?_
   rw [HE.out]
   obtain ⟨vs2,hst2⟩:=H2.out
   exact jam.wrote hst2 (fun _ _=>rfl) (by omega) hc1 hF2.out (jb0.plain 10 0 _)
open Go.RowKit Go.Shelf
theorem do_2 (σ:StoreD) (c:Nat→Nat) (g:Nat) (vs:List Value) (vl:Value) (m:Int) (name text:ByteArray) (inp:List Int) (va:Value) (w:World) (h:StoreC w c g σ vs vl) (hv:VarsOk w) (hvc:jc0 c) (ha:jgy w (fun b=>b<w.heap.size∧c b=0) ⟨2,m,name,text,inp⟩ va)
  (hs2:text.size≤140737488355328) (hfull:¬ 200 ≤ σ.acts) :
  Calls Tryz.prog 15 #[.pointer (some ⟨g,0,none⟩),va] w (jam w c g (doV σ ⟨2,m,name,text,inp⟩)):=by
 have HH:=Lib.hid h
 have HCL:=Lib.hid h.lt
 have HV:=Lib.hid hv
 have HVC:=Lib.hid hvc
 have HIV:=Lib.hid h.inv
 have hcg:c g≠0:=by rw [h.col];decide
 have hgw:g<w.heap.size:=h.cs.1
 have hac:=h.inv.acts
 have HID:=Lib.hid (h.inv.do_ ⟨2,m,name,text,inp⟩)
 obtain ⟨vi,rfl,hi⟩:=ha
 simp only at hi
 have HIN:=Lib.hid hi
 obtain ⟨Ai,ci,rfl,-,-⟩:=hi.form
 clear h hv hvc hi
 have hb0:=jac w (.cells #[.int .i64 2,.int .i64 m,.string name,.string text,.slice Ai inp.length ci] 24)
 have B0:=Lib.hid (Cs.new w [.int .i64 2,.int .i64 m,.string name,.string text,.slice Ai inp.length ci] 24)
 have hz0:(w.alloc (.cells #[.int .i64 2,.int .i64 m,.string name,.string text,.slice Ai inp.length ci] 24)).heap.size=w.heap.size+1:=by simp
 change Hid (Cs (w.alloc (.cells #[.int .i64 2,.int .i64 m,.string name,.string text,.slice Ai inp.length ci] 24)) _ _) at B0
 generalize hw0:w.alloc (.cells #[.int .i64 2,.int .i64 m,.string name,.string text,.slice Ai inp.length ci] 24)=w0 at *
 have hb1:=jac w0 (.cells #[.int .i64 0,.int .i64 0,.string ⟨#[]⟩,.slice none 0 0,.slice none 0 0] 30)
 have C1:=Lib.hid (Cs.new w0 zeroRL 30)
 have hz1:(w0.alloc (.cells #[.int .i64 0,.int .i64 0,.string ⟨#[]⟩,.slice none 0 0,.slice none 0 0] 30)).heap.size=w.heap.size+2:=by simp;omega
 change Hid (Cs (w0.alloc (.cells #[.int .i64 0,.int .i64 0,.string ⟨#[]⟩,.slice none 0 0,.slice none 0 0] 30)) _ _) at C1
 rw [hz0] at C1
 have B1:=Lib.hid (B0.out.next hb1)
 have hb01:=bx hb0 hb1
 generalize hw1:w0.alloc (.cells #[.int .i64 0,.int .i64 0,.string ⟨#[]⟩,.slice none 0 0,.slice none 0 0] 30)=w1 at *
 have H1:=Lib.hid (HH.out.next hb01)
 have HV1:=Lib.hid (HV.out.next hb01)
 have k0:=B1.out.at 0 rfl
 have k1:=B1.out.at 1 rfl
 have k2:=B1.out.at 2 rfl
 have k3:=B1.out.at 3 rfl
 have k4:=B1.out.at 4 rfl
 have hIN1:Hid (Sl Enc.int w1 (fun b=>b<w1.heap.size∧c b=0) inp (.slice Ai inp.length ci)):=(HIN.out.keep (w':=w1) fun p hp=>World.cell?_of_block (hb01.block _ hp.1)).more fun q hq=>⟨by have:=hq.1;omega,hq.2⟩
 have hc1:c (w.heap.size+1)=0:=jb1 HCL.out (by omega)
 have q29:w1.cell? ⟨g,29,none⟩=some (.int .i64 σ.acts):=H1.out.cs.at 29 H1.out.acts
 have z29:w1.frozen? ⟨g,29,none⟩=false:=H1.out.cs.2.2 29 (by rw [H1.out.len];decide)
 have hfi:¬ (200:Int)≤(σ.acts:Int):=by omega
 have hwa:IntKind.i64.wrap ((σ.acts:Int)+1)=(σ.acts:Int)+1:=by rw [IntKind.wrap_i64];omega
 have H2:Hid (∃ vs2,StoreC (w1.setCell ⟨g,29,none⟩ (.int .i64 ((σ.acts:Int)+1))) c g (jbj σ) vs2 vl):=⟨_,H1.out.tick (by omega)⟩
 have hF2:Hid (Fr c w (w1.setCell ⟨g,29,none⟩ (.int .i64 ((σ.acts:Int)+1)))):=(Fr.below hb01).trans (Fr.set c w1 g 29 _ hcg) (fun _ _=>rfl)
 have HV2:=Lib.hid (HV.out.fr HVC.out hF2.out)
 have hne0:w.heap.size≠g:=by omega
 have hne1:w.heap.size+1≠g:=by omega
 have hz2:(w1.setCell ⟨g,29,none⟩ (.int .i64 ((σ.acts:Int)+1))).heap.size=w.heap.size+2:=by simp [World.setCell];exact hz1
 have C2:=Lib.hid (C1.out.keep (w':=w1.setCell ⟨g,29,none⟩ (.int .i64 ((σ.acts:Int)+1))) (RowKit.Below.heap_setCell _ _ _ _ hne1) (by simp [World.setCell]))
 have B2:=Lib.hid (B1.out.keep (w':=w1.setCell ⟨g,29,none⟩ (.int .i64 ((σ.acts:Int)+1))) (RowKit.Below.heap_setCell _ _ _ _ hne0) (by simp [World.setCell]))
 have hIN2:Hid (Sl Enc.int (w1.setCell ⟨g,29,none⟩ (.int .i64 ((σ.acts:Int)+1))) (fun b=>b<(w1.setCell ⟨g,29,none⟩ (.int .i64 ((σ.acts:Int)+1))).heap.size∧c b=0) inp (.slice Ai inp.length ci)):=(hIN1.out.keep (w':=w1.setCell ⟨g,29,none⟩ (.int .i64 ((σ.acts:Int)+1))) fun p hp=>World.cell?_of_block (RowKit.Below.heap_setCell _ _ _ _ (fun e=>hcg (by have e2:p.block=g:=e;rw [← e2];exact hp.2)))).more fun q hq=>⟨by have:=hq.1;omega,hq.2⟩
 have e0:=B2.out.at 0 rfl
 have e1:=B2.out.at 1 rfl
 have e2:=B2.out.at 2 rfl
 have e3:=B2.out.at 3 rfl
 have e4:=B2.out.at 4 rfl
 have HE0:Hid (doV σ ⟨2,m,name,text,inp⟩=if jcp (jbj σ) m then ja8 (jbj σ) m.toNat ⟨2,m,name,text,inp⟩ else (jbj σ,jb8 3)):=by show _=_;unfold doV;rw [if_neg hfull];rfl
 generalize doV σ ⟨2,m,name,text,inp⟩=PV at *
 go_enter Tryz.func15,Tryz.ntmps15
 go_wp2_with fail
 clear hw0 hw1 k0 k1 k2 k3 k4 q29 z29
 generalize w1.setCell ⟨g,29,none⟩ (.int .i64 ((σ.acts:Int)+1))=w2 at *
 obtain ⟨vs2,hst2⟩:=H2.out
 have H3:=Lib.hid hst2
 clear hst2 H2
 refine (jgh (jbj σ) c g vs2 vl _ H3.out m).mono ?_
 rintro e w3 ⟨rfl,hw3⟩
 replace hw3:=hw3.symm
 subst hw3
 cases hop:jcp (jbj σ) m
 ·have HE:Hid (PV=(jbj σ,jb8 3)):=by show _=_;rw [HE0.out,hop];rfl
  clear hop HE0
  have r0:=C2.out.at 0 rfl
  have r1:=C2.out.at 1 rfl
  have r2:=C2.out.at 2 rfl
  have r3:=C2.out.at 3 rfl
  have r4:=C2.out.at 4 rfl
  have f0:=C2.out.2.2 0 (by simp)
  have f1:=C2.out.2.2 1 (by simp)
  have f2:=C2.out.2.2 2 (by simp)
  have f3:=C2.out.2.2 3 (by simp)
  have f4:=C2.out.2.2 4 (by simp)
  go_wp2
  (try simp only [Exit.inBlock,Exit.then])
  refine bodyPost_ret (jaz (b:=w.heap.size+1) rfl rfl (jbs C2.out _ _ _ _ _)) rfl ?_
  rw [HE.out]
  exact jam.wrote H3.out (fun _ _=>rfl) (by omega) hc1 hF2.out (jb0.plain 3 0 _)
 ·obtain ⟨h0,h4,-⟩:=jd9.1 hop
  have HE:Hid (PV=ja8 (jbj σ) m.toNat ⟨2,m,name,text,inp⟩):=by show _=_;rw [HE0.out,hop];rfl
  have HI:=HID.out
  rw [HE.out] at HI
  obtain ⟨k,rfl⟩:∃ k:Nat,m=k:=⟨m.toNat,by omega⟩
  rw [Int.toNat_natCast] at HI HE
  have HI2:=Lib.hid HI
  have hk4:k<4:=by omega
  clear hop HE0 HI HID
  have H3d:=Lib.hid H3.out.drewS
  have HV2d:=Lib.hid HV2.out.drewS
  have hF2d:=Lib.hid hF2.out.drew
  have C2d:=Lib.hid C2.out.drew
  have hA2d:Hid (jgy w2.drew (fun b=>b<w2.drew.heap.size∧c b=0) ⟨2,k,name,text,inp⟩ (.agg #[.int .i64 2,.int .i64 k,.string name,.string text,.slice Ai inp.length ci])):=⟨_,rfl,hIN2.out.keep (w':=w2.drew) fun _ _=>rfl⟩
  have d0:w2.drew.cell? ⟨w.heap.size,0,none⟩=_:=e0
  have d1:w2.drew.cell? ⟨w.heap.size,1,none⟩=_:=e1
  have d2:w2.drew.cell? ⟨w.heap.size,2,none⟩=_:=e2
  have d3:w2.drew.cell? ⟨w.heap.size,3,none⟩=_:=e3
  have d4:w2.drew.cell? ⟨w.heap.size,4,none⟩=_:=e4
  have hzd:w2.drew.heap.size=w.heap.size+2:=hz2
  have hk0:(0:Int)≤k:=by omega
  have hk4':(k:Int)<4:=by omega
  go_wp2_with fail
  go_region_law (first
   | (go_simp;go_at_call 44;refine (ylz (jbj σ) c g k vs2 vl k name text inp _ _ H3d.out HV2d.out HVC.out hk4 hA2d.out hs2 HI2.out).mono ?_;rintro e w3 hP;rw [← HE.out] at hP;obtain ⟨A1,q1,A2,q2,rfl,hC3,hP3⟩:=hP.up hF2d.out (b0:=w.heap.size+1) (by omega) (by omega) hc1 C2d.out;have C3:=Lib.hid hC3;have HP3:=Lib.hid hP3;clear hP hC3 hP3;have r0:=C3.out.at 0 rfl;have r1:=C3.out.at 1 rfl;have r2:=C3.out.at 2 rfl;have r3:=C3.out.at 3 rfl;have r4:=C3.out.at 4 rfl;have f0:=C3.out.2.2 0 (by simp);have f1:=C3.out.2.2 1 (by simp);have f2:=C3.out.2.2 2 (by simp);have f3:=C3.out.2.2 3 (by simp);have f4:=C3.out.2.2 4 (by simp)))
  all_goals
   go_wp2
   (try simp only [Exit.inBlock,Exit.then])
   exact bodyPost_ret (jaz (b:=w.heap.size+1) rfl rfl (jbs C3.out _ _ _ _ _)) rfl HP3.out
end Go.Proofs.YthmlndmlnlfhnaaGreatDoor
