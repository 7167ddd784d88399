import Derived.Test.YthmlndmlnlfhnaaGreatDoorProg
import Derived.Test.YthmlndmlnlfhnaaGreatDoorChecked
import Derived.Test.YthmlndmlnlfhnaaGreatDoorK9234bc57
import Derived.Test.YthmlndmlnlfhnaaGreatDoorK5de86456
set_option maxRecDepth 100000
set_option maxHeartbeats 16000000
namespace Go.Proofs.YthmlndmlnlfhnaaGreatDoor
open Go.RowKit Go.Shelf
theorem yn1 (a b:List UInt8):decide (Lib.compareBytes a b<0)=Op.bytesLess a b:=by
 induction a generalizing b with
 | nil=>cases b <;> simp [Lib.compareBytes,Op.bytesLess]
 | cons x a ih =>
  cases b with
  | nil=>simp [Lib.compareBytes,Op.bytesLess]
  | cons y b =>
   by_cases h1:x<y
   ·have e:Lib.compareBytes (x :: a) (y :: b) = -1:=by simp [Lib.compareBytes,h1]
    rw [e];simp [Op.bytesLess,h1]
   ·by_cases h2:y<x
    ·have e:Lib.compareBytes (x :: a) (y :: b)=1:=by simp [Lib.compareBytes,h1,h2]
     have hne:¬ x=y:=fun e=>by rw [e] at h2;exact absurd h2 (UInt8.lt_irrefl _)
     rw [e];simp [Op.bytesLess,h1,hne]
    ·have he:x=y:=by
      rcases Nat.lt_trichotomy x.toNat y.toNat with h | h | h
      ·exact absurd h h1
      ·exact UInt8.toNat_inj.1 h
      ·exact absurd h h2
     subst he
     have e:Lib.compareBytes (x :: a) (x :: b)=Lib.compareBytes a b:=by simp [Lib.compareBytes]
     rw [e,ih];simp [Op.bytesLess]
theorem yqf (a b:ByteArray):(Lib.compareBytes a.data.toList b.data.toList<0)↔ltS a b=true:=by
 unfold ltS
 rw [ByteArray.toList_eq,ByteArray.toList_eq,← yn1];simp
theorem ybz (nm:ByteArray) (lo hi:Int) (s:ByteArray) (w:World) :
  Calls Tryz.prog 102 #[.agg #[.string nm,.int .i64 lo,.int .i64 hi],.string s] w fun e w'=>(∃ r:Int,e = .returned (.int .i64 r)∧Hid (r<0↔ltS nm s=true))∧Below w.heap.size w w':=by
 have hcon:=fun W'=>Any.strings_Compare Tryz.compare nm s W'
 change ∀ W',Calls Tryz.prog 99 _ _ _ at hcon
 have HL:=Lib.hid (yqf nm s)
 generalize Lib.compareBytes nm.data.toList s.data.toList=r at hcon HL ⊢
 go_enter Tryz.func102,Tryz.ntmps102
 go_wp2_with (go_at_call 99;refine (hcon _).mono ?_;rintro e w' ⟨rfl,rfl⟩)
 go_ret
 exact ⟨⟨r,rfl,HL⟩,jac _ _⟩
theorem yia (l:List DomD) (v:Value) (s:ByteArray) (w:World) (h:Raw w 3 v l.length (l.flatMap ja0)) (hv:∀ k,v.ownBlock=some k→k<w.heap.size) (hr:jdc (fun x:DomD=>x.1) l=true) (hbig:l.length<4611686018427387904) :
  Calls Tryz.prog 101 #[v,.string s,.func (.func 102) #[] #[]] w fun e w'=>(∃ f:Bool,e = .returned (.tuple #[.int .i64 (posF (fun x:DomD=>x.1) l s:Nat),.bool f]))∧Below w.heap.size w w':=by
 have H:=Lib.hid h
 have HV:=Lib.hid hv
 have HR:=Lib.hid hr
 obtain ⟨A,cp,rfl,hc1,hc2,-⟩:=h
 unfold maxLen at hc2
 clear hv hr
 have hp:=jpr (f:=fun x:DomD=>x.1) l s
 have HP:Hid (∃ p,p=posF (fun x:DomD=>x.1) l s):=⟨_,rfl⟩
 have HPL:Hid (∀ k x,l[k]? = some x→(k<posF (fun x:DomD=>x.1) l s↔ltS x.1 s=true)):=by
  intro k x hx
  constructor
  ·intro hk;exact yb7 (f:=fun x:DomD=>x.1) hk hx
  ·intro hlt
   rcases Nat.lt_or_ge k (posF (fun x:DomD=>x.1) l s) with h | h
   ·exact h
   ·have:=jxi (f:=fun x:DomD=>x.1) HR.out h hx
    rw [this] at hlt;cases hlt
 clear HP
 generalize posF (fun x:DomD=>x.1) l s=p at *
 have eg:∀ args w,(callFunc 102 args).run Tryz.prog w = .ok (.enter 102 args) w:=enters_of Tryz.func102 (by kernel_rfl) rfl
 go_enter Tryz.func101,Tryz.ntmps101
 go_wp2
 go_loopw [9,10] (fun a b wr=>∃ li ri:Nat,a = .int .i64 li∧b = .int .i64 ri∧li≤p∧p≤ri∧ri≤l.length∧Below w.heap.size w wr) (fun a b _=>(intOf b).toNat-(intOf a).toNat)
 case atStart=>exact ⟨0,l.length,rfl,rfl,Nat.zero_le _,hp,Nat.le_refl _,Below.refl _ _⟩
 case round =>
  obtain ⟨li,ri,rfl,rfl,hlo,hhi,hil,hb⟩:=hrel
  by_cases hlt:li<ri
  ·obtain ⟨b,o,nm,lo,hi,rfl,hx,hbl,c0,c1,c2⟩:=yeg (H.out.keep (w':=wr) (fun _ p hp=>hb.cell (HV.out _ hp))) (show (li+ri) / 2<l.length by omega)
   go_wp2_with fail
   refine (ybz nm lo hi s _).mono ?_
   rintro e w1 ⟨⟨r,rfl,hr⟩,hb1⟩
   have hb01:=bx hb hb1
   have HX:=Lib.hid (HPL.out _ _ hx.out)
   by_cases hq:r<0
   ·have hmp:(li+ri) / 2<p:=HX.out.2 (hr.out.1 hq)
    go_wp2
    refine ⟨⟨(li+ri) / 2+1,ri,by go_num,rfl,by omega,hhi,hil,hb01⟩,by simp [intOf];omega⟩
   ·have hmp:p≤(li+ri) / 2:=by
     rcases Nat.lt_or_ge ((li+ri) / 2) p with h | h
     ·exact absurd (hr.out.2 (HX.out.1 h)) hq
     ·exact h
    go_wp2
    refine ⟨⟨li,(li+ri) / 2,rfl,by go_num,hlo,hmp,by omega,hb01⟩,by simp [intOf];omega⟩
  ·obtain rfl:li=p:=by omega
   by_cases hn:li<l.length
   ·obtain ⟨b,o,nm,lo,hi,rfl,hx,hbl,c0,c1,c2⟩:=yeg (H.out.keep (w':=wr) (fun _ p hp=>hb.cell (HV.out _ hp))) hn
    go_wp2_with fail
    refine (ybz nm lo hi s _).mono ?_
    rintro e w1 ⟨⟨r,rfl,hr⟩,hb1⟩
    have hb01:=bx hb hb1
    go_wp2
    go_ret2
    exact ⟨⟨_,rfl⟩,hb01⟩
   ·go_wp2
    go_ret2
    exact ⟨⟨_,rfl⟩,hb⟩
theorem yb0 (nm:ByteArray) (pol:Int) (comp:Bool) (ia:Option Addr) (il ic:Nat) (ra:Option Addr) (rl rc:Nat) (s:ByteArray) (w:World) :
  Calls Tryz.prog 98 #[.agg #[.string nm,.int .i64 pol,.bool comp,.slice ia il ic,.slice ra rl rc],.string s] w fun e w'=>(∃ r:Int,e = .returned (.int .i64 r)∧Hid (r<0↔ltS nm s=true))∧Below w.heap.size w w':=by
 have hcon:=fun W'=>Any.strings_Compare Tryz.compare nm s W'
 change ∀ W',Calls Tryz.prog 99 _ _ _ at hcon
 have HL:=Lib.hid (yqf nm s)
 generalize Lib.compareBytes nm.data.toList s.data.toList=r at hcon HL ⊢
 go_enter Tryz.func98,Tryz.ntmps98
 go_wp2_with (go_at_call 99;refine (hcon _).mono ?_;rintro e w' ⟨rfl,rfl⟩)
 go_ret
 exact ⟨⟨r,rfl,HL⟩,jac _ _⟩
theorem yib (l:List RawT) (v:Value) (s:ByteArray) (w:World) (h:Raw w 5 v l.length (l.flatMap jbc)) (hv:∀ k,v.ownBlock=some k→k<w.heap.size) (hr:jdc (fun x:RawT=>x.1) l=true) (hbig:l.length<4611686018427387904) :
  Calls Tryz.prog 97 #[v,.string s,.func (.func 98) #[] #[]] w fun e w'=>(∃ f:Bool,e = .returned (.tuple #[.int .i64 (posF (fun x:RawT=>x.1) l s:Nat),.bool f]))∧Below w.heap.size w w':=by
 have H:=Lib.hid h
 have HV:=Lib.hid hv
 have HR:=Lib.hid hr
 obtain ⟨A,cp,rfl,hc1,hc2,-⟩:=h
 unfold maxLen at hc2
 clear hv hr
 have hp:=jpr (f:=fun x:RawT=>x.1) l s
 have HP:Hid (∃ p,p=posF (fun x:RawT=>x.1) l s):=⟨_,rfl⟩
 have HPL:Hid (∀ k x,l[k]? = some x→(k<posF (fun x:RawT=>x.1) l s↔ltS x.1 s=true)):=by
  intro k x hx
  constructor
  ·intro hk;exact yb7 (f:=fun x:RawT=>x.1) hk hx
  ·intro hlt
   rcases Nat.lt_or_ge k (posF (fun x:RawT=>x.1) l s) with h | h
   ·exact h
   ·have:=jxi (f:=fun x:RawT=>x.1) HR.out h hx
    rw [this] at hlt;cases hlt
 clear HP
 generalize posF (fun x:RawT=>x.1) l s=p at *
 have eg:∀ args w,(callFunc 98 args).run Tryz.prog w = .ok (.enter 98 args) w:=enters_of Tryz.func98 (by kernel_rfl) rfl
 go_enter Tryz.func97,Tryz.ntmps97
 go_wp2
 go_loopw [9,10] (fun a b wr=>∃ li ri:Nat,a = .int .i64 li∧b = .int .i64 ri∧li≤p∧p≤ri∧ri≤l.length∧Below w.heap.size w wr) (fun a b _=>(intOf b).toNat-(intOf a).toNat)
 case atStart=>exact ⟨0,l.length,rfl,rfl,Nat.zero_le _,hp,Nat.le_refl _,Below.refl _ _⟩
 case round =>
  obtain ⟨li,ri,rfl,rfl,hlo,hhi,hil,hb⟩:=hrel
  by_cases hlt:li<ri
  ·obtain ⟨b,o,nm,pol,comp,ia,il,ic,ra,rl,rc,rfl,hx,hbl,c0,c1,c2,c3,c4⟩:=yeh (H.out.keep (w':=wr) (fun _ p hp=>hb.cell (HV.out _ hp))) (show (li+ri) / 2<l.length by omega)
   go_wp2_with fail
   refine (yb0 nm pol comp ia il ic ra rl rc s _).mono ?_
   rintro e w1 ⟨⟨r,rfl,hr⟩,hb1⟩
   have hb01:=bx hb hb1
   have HX:=Lib.hid (HPL.out _ _ hx.out)
   by_cases hq:r<0
   ·have hmp:(li+ri) / 2<p:=HX.out.2 (hr.out.1 hq)
    go_wp2
    refine ⟨⟨(li+ri) / 2+1,ri,by go_num,rfl,by omega,hhi,hil,hb01⟩,by simp [intOf];omega⟩
   ·have hmp:p≤(li+ri) / 2:=by
     rcases Nat.lt_or_ge ((li+ri) / 2) p with h | h
     ·exact absurd (hr.out.2 (HX.out.1 h)) hq
     ·exact h
    go_wp2
    refine ⟨⟨li,(li+ri) / 2,rfl,by go_num,hlo,hmp,by omega,hb01⟩,by simp [intOf];omega⟩
  ·obtain rfl:li=p:=by omega
   by_cases hn:li<l.length
   ·obtain ⟨b,o,nm,pol,comp,ia,il,ic,ra,rl,rc,rfl,hx,hbl,c0,c1,c2,c3,c4⟩:=yeh (H.out.keep (w':=wr) (fun _ p hp=>hb.cell (HV.out _ hp))) hn
    go_wp2_with fail
    refine (yb0 nm pol comp ia il ic ra rl rc s _).mono ?_
    rintro e w1 ⟨⟨r,rfl,hr⟩,hb1⟩
    have hb01:=bx hb hb1
    go_wp2
    go_ret2
    exact ⟨⟨_,rfl⟩,hb01⟩
   ·go_wp2
    go_ret2
    exact ⟨⟨_,rfl⟩,hb⟩
open Go.RowKit
theorem jwl:Tryz.prog.underlying 35=some (.slice 58):=by kernel_rfl
theorem yjk:(Tryz.prog.info? 58).map (fun i=>(i.zero,i.size,i.bytes))=some (some (.agg #[.string ⟨#[]⟩,.int .i64 0,.int .i64 0]),3,32):=by kernel_rfl
theorem yal (v:Value) (n:Nat) (us:List Value) (w:World) (h:Raw w 3 v n us) (hbig:n*32≤140737488355328) :
  Calls Tryz.prog 75 #[v] w fun e w'=>∃ v',e = .returned v'∧w'.ownsRow w.heap.size 58 3 v' n us∧Below w.heap.size w w':=by
 obtain ⟨A,c,rfl,h2,h3,h4,h5,h6,h7⟩:=h
 have q22:∀ (w:World) (a:Option Addr) (n c n' c':Nat),(binOp .eql 35 (.slice a n c) (.slice none n' c')).run Tryz.prog w = .ok (.bool a.isNone) w:=fun w a n c n' c'=>Lib.run_eql_slice_nil w _ _ a n c n' c' jwl
 cases A with
 | none =>
  have hc:=h4 rfl
  subst hc
  obtain rfl:n=0:=by omega
  obtain rfl:us = []:=List.length_eq_zero_iff.1 (by simpa using h5)
  go_enter Tryz.func75,Tryz.ntmps75
  go_wp2
  go_ret
  exact ⟨_,rfl,World.ownsRow_nil _ _ _ _,Below.refl _ _⟩
 | some a =>
  have hnew:Hid (∀ W:World,(∀ p:Addr,p.block<w.heap.size→W.cell? p=w.cell? p)→∀ j u,us[j]? = some u→W.cell? (a.add j)=some u):=by
   intro W hW j u hj
   have h0:0<n:=by
    have:=(List.getElem?_eq_some_iff.1 hj).1
    rcases Nat.eq_zero_or_pos n with h0 | h0
    ·rw [h0] at h5;omega
    ·exact h0
   obtain ⟨b,o,e,h8⟩:=h6 h0
   injection e with e
   subst e
   rw [Addr.add_lit]
   have:=h8 j u hj
   rw [hW _ (World.block_lt_of_cell? w _ this)]
   exact this
  clear h6
  go_enter Tryz.func75,Tryz.ntmps75
  go_wp2_with (at_builtin;refine jav _ rfl _ _ 35 rfl w.heap.size 58 3 32 (.agg #[.string ⟨#[]⟩,.int .i64 0,.int .i64 0]) jwl yjk rfl (by decide) _ 0 [] rfl (World.ownsRow_made w #[] 0 (Nat.le_refl _) (Nat.zero_le _) (by simp)) a n c us rfl h5 (hnew.out _ (fun p hp=>(jac w _).cell hp)) h7 (by omega) (by omega) (by simp) ?_;intro v' w1 hown hgrow hmv)
  go_ret
  refine ⟨v',rfl,by simpa using hown,?_⟩
  exact ((Below.refl _ w).alloc (Nat.le_refl _) _).grown hgrow (by simp) (by intro k hk;injection hk with hk;subst hk;exact Nat.le_refl _)
theorem jww:Tryz.prog.underlying 36=some (.slice 56):=by kernel_rfl
theorem yj0:(Tryz.prog.info? 56).map (fun i=>(i.zero,i.size,i.bytes))=some (some (.agg #[.string ⟨#[]⟩,.int .i64 0,.bool false,.slice none 0 0,.slice none 0 0]),5,80):=by kernel_rfl
theorem yjt (v:Value) (n:Nat) (us:List Value) (w:World) (h:Raw w 5 v n us) (hbig:n*80≤140737488355328) :
  Calls Tryz.prog 107 #[v] w fun e w'=>∃ v',e = .returned v'∧w'.ownsRow w.heap.size 56 5 v' n us∧Below w.heap.size w w':=by
 obtain ⟨A,c,rfl,h2,h3,h4,h5,h6,h7⟩:=h
 have q22:∀ (w:World) (a:Option Addr) (n c n' c':Nat),(binOp .eql 36 (.slice a n c) (.slice none n' c')).run Tryz.prog w = .ok (.bool a.isNone) w:=fun w a n c n' c'=>Lib.run_eql_slice_nil w _ _ a n c n' c' jww
 cases A with
 | none =>
  have hc:=h4 rfl
  subst hc
  obtain rfl:n=0:=by omega
  obtain rfl:us = []:=List.length_eq_zero_iff.1 (by simpa using h5)
  go_enter Tryz.func107,Tryz.ntmps107
  go_wp2
  go_ret
  exact ⟨_,rfl,World.ownsRow_nil _ _ _ _,Below.refl _ _⟩
 | some a =>
  have hnew:Hid (∀ W:World,(∀ p:Addr,p.block<w.heap.size→W.cell? p=w.cell? p)→∀ j u,us[j]? = some u→W.cell? (a.add j)=some u):=by
   intro W hW j u hj
   have h0:0<n:=by
    have:=(List.getElem?_eq_some_iff.1 hj).1
    rcases Nat.eq_zero_or_pos n with h0 | h0
    ·rw [h0] at h5;omega
    ·exact h0
   obtain ⟨b,o,e,h8⟩:=h6 h0
   injection e with e
   subst e
   rw [Addr.add_lit]
   have:=h8 j u hj
   rw [hW _ (World.block_lt_of_cell? w _ this)]
   exact this
  clear h6
  go_enter Tryz.func107,Tryz.ntmps107
  go_wp2_with (at_builtin;refine jav _ rfl _ _ 36 rfl w.heap.size 56 5 80 (.agg #[.string ⟨#[]⟩,.int .i64 0,.bool false,.slice none 0 0,.slice none 0 0]) jww yj0 rfl (by decide) _ 0 [] rfl (World.ownsRow_made w #[] 0 (Nat.le_refl _) (Nat.zero_le _) (by simp)) a n c us rfl h5 (hnew.out _ (fun p hp=>(jac w _).cell hp)) h7 (by omega) (by omega) (by simp) ?_;intro v' w1 hown hgrow hmv)
  go_ret
  refine ⟨v',rfl,by simpa using hown,?_⟩
  exact ((Below.refl _ w).alloc (Nat.le_refl _) _).grown hgrow (by simp) (by intro k hk;injection hk with hk;subst hk;exact Nat.le_refl _)
theorem jt4:Tryz.prog.underlying 54=some (.slice 82):=by kernel_rfl
theorem ygz:(Tryz.prog.info? 82).map (fun i=>(i.zero,i.size,i.bytes))=some (some (.agg #[.slice none 0 0,.int .i64 0]),2,32):=by kernel_rfl
theorem ygy (v:Value) (n:Nat) (us:List Value) (w:World) (h:Raw w 2 v n us) (hbig:n*32≤140737488355328) :
  Calls Tryz.prog 118 #[v] w fun e w'=>∃ v',e = .returned v'∧w'.ownsRow w.heap.size 82 2 v' n us∧Below w.heap.size w w':=by
 obtain ⟨A,c,rfl,h2,h3,h4,h5,h6,h7⟩:=h
 have q22:∀ (w:World) (a:Option Addr) (n c n' c':Nat),(binOp .eql 54 (.slice a n c) (.slice none n' c')).run Tryz.prog w = .ok (.bool a.isNone) w:=fun w a n c n' c'=>Lib.run_eql_slice_nil w _ _ a n c n' c' jt4
 cases A with
 | none =>
  have hc:=h4 rfl
  subst hc
  obtain rfl:n=0:=by omega
  obtain rfl:us = []:=List.length_eq_zero_iff.1 (by simpa using h5)
  go_enter Tryz.func118,Tryz.ntmps118
  go_wp2
  go_ret
  exact ⟨_,rfl,World.ownsRow_nil _ _ _ _,Below.refl _ _⟩
 | some a =>
  have hnew:Hid (∀ W:World,(∀ p:Addr,p.block<w.heap.size→W.cell? p=w.cell? p)→∀ j u,us[j]? = some u→W.cell? (a.add j)=some u):=by
   intro W hW j u hj
   have h0:0<n:=by
    have:=(List.getElem?_eq_some_iff.1 hj).1
    rcases Nat.eq_zero_or_pos n with h0 | h0
    ·rw [h0] at h5;omega
    ·exact h0
   obtain ⟨b,o,e,h8⟩:=h6 h0
   injection e with e
   subst e
   rw [Addr.add_lit]
   have:=h8 j u hj
   rw [hW _ (World.block_lt_of_cell? w _ this)]
   exact this
  clear h6
  go_enter Tryz.func118,Tryz.ntmps118
  go_wp2_with (at_builtin;refine jav _ rfl _ _ 54 rfl w.heap.size 82 2 32 (.agg #[.slice none 0 0,.int .i64 0]) jt4 ygz rfl (by decide) _ 0 [] rfl (World.ownsRow_made w #[] 0 (Nat.le_refl _) (Nat.zero_le _) (by simp)) a n c us rfl h5 (hnew.out _ (fun p hp=>(jac w _).cell hp)) h7 (by omega) (by omega) (by simp) ?_;intro v' w1 hown hgrow hmv)
  go_ret
  refine ⟨v',rfl,by simpa using hown,?_⟩
  exact ((Below.refl _ w).alloc (Nat.le_refl _) _).grown hgrow (by simp) (by intro k hk;injection hk with hk;subst hk;exact Nat.le_refl _)
theorem jtz:Tryz.prog.underlying 80=some (.slice 85):=by kernel_rfl
theorem ygn:(Tryz.prog.info? 85).map (fun i=>(i.zero,i.size,i.bytes))=some (some (.agg #[.bool false,.slice none 0 0]),2,32):=by kernel_rfl
theorem ygv (v:Value) (n:Nat) (us:List Value) (w:World) (h:Raw w 2 v n us) (hbig:n*32≤140737488355328) :
  Calls Tryz.prog 158 #[v] w fun e w'=>∃ v',e = .returned v'∧w'.ownsRow w.heap.size 85 2 v' n us∧Below w.heap.size w w':=by
 obtain ⟨A,c,rfl,h2,h3,h4,h5,h6,h7⟩:=h
 have q22:∀ (w:World) (a:Option Addr) (n c n' c':Nat),(binOp .eql 80 (.slice a n c) (.slice none n' c')).run Tryz.prog w = .ok (.bool a.isNone) w:=fun w a n c n' c'=>Lib.run_eql_slice_nil w _ _ a n c n' c' jtz
 cases A with
 | none =>
  have hc:=h4 rfl
  subst hc
  obtain rfl:n=0:=by omega
  obtain rfl:us = []:=List.length_eq_zero_iff.1 (by simpa using h5)
  go_enter Tryz.func158,Tryz.ntmps158
  go_wp2
  go_ret
  exact ⟨_,rfl,World.ownsRow_nil _ _ _ _,Below.refl _ _⟩
 | some a =>
  have hnew:Hid (∀ W:World,(∀ p:Addr,p.block<w.heap.size→W.cell? p=w.cell? p)→∀ j u,us[j]? = some u→W.cell? (a.add j)=some u):=by
   intro W hW j u hj
   have h0:0<n:=by
    have:=(List.getElem?_eq_some_iff.1 hj).1
    rcases Nat.eq_zero_or_pos n with h0 | h0
    ·rw [h0] at h5;omega
    ·exact h0
   obtain ⟨b,o,e,h8⟩:=h6 h0
   injection e with e
   subst e
   rw [Addr.add_lit]
   have:=h8 j u hj
   rw [hW _ (World.block_lt_of_cell? w _ this)]
   exact this
  clear h6
  go_enter Tryz.func158,Tryz.ntmps158
  go_wp2_with (at_builtin;refine jav _ rfl _ _ 80 rfl w.heap.size 85 2 32 (.agg #[.bool false,.slice none 0 0]) jtz ygn rfl (by decide) _ 0 [] rfl (World.ownsRow_made w #[] 0 (Nat.le_refl _) (Nat.zero_le _) (by simp)) a n c us rfl h5 (hnew.out _ (fun p hp=>(jac w _).cell hp)) h7 (by omega) (by omega) (by simp) ?_;intro v' w1 hown hgrow hmv)
  go_ret
  refine ⟨v',rfl,by simpa using hown,?_⟩
  exact ((Below.refl _ w).alloc (Nat.le_refl _) _).grown hgrow (by simp) (by intro k hk;injection hk with hk;subst hk;exact Nat.le_refl _)
theorem jwv:Tryz.prog.underlying 83=some (.slice 87):=by kernel_rfl
theorem yjz:(Tryz.prog.info? 87).map (fun i=>(i.zero,i.size,i.bytes))=some (some (.agg #[.int .i64 0,.int .i64 0]),2,16):=by kernel_rfl
theorem yjs (v:Value) (n:Nat) (us:List Value) (w:World) (h:Raw w 2 v n us) (hbig:n*16≤140737488355328) :
  Calls Tryz.prog 159 #[v] w fun e w'=>∃ v',e = .returned v'∧w'.ownsRow w.heap.size 87 2 v' n us∧Below w.heap.size w w':=by
 obtain ⟨A,c,rfl,h2,h3,h4,h5,h6,h7⟩:=h
 have q22:∀ (w:World) (a:Option Addr) (n c n' c':Nat),(binOp .eql 83 (.slice a n c) (.slice none n' c')).run Tryz.prog w = .ok (.bool a.isNone) w:=fun w a n c n' c'=>Lib.run_eql_slice_nil w _ _ a n c n' c' jwv
 cases A with
 | none =>
  have hc:=h4 rfl
  subst hc
  obtain rfl:n=0:=by omega
  obtain rfl:us = []:=List.length_eq_zero_iff.1 (by simpa using h5)
  go_enter Tryz.func159,Tryz.ntmps159
  go_wp2
  go_ret
  exact ⟨_,rfl,World.ownsRow_nil _ _ _ _,Below.refl _ _⟩
 | some a =>
  have hnew:Hid (∀ W:World,(∀ p:Addr,p.block<w.heap.size→W.cell? p=w.cell? p)→∀ j u,us[j]? = some u→W.cell? (a.add j)=some u):=by
   intro W hW j u hj
   have h0:0<n:=by
    have:=(List.getElem?_eq_some_iff.1 hj).1
    rcases Nat.eq_zero_or_pos n with h0 | h0
    ·rw [h0] at h5;omega
    ·exact h0
   obtain ⟨b,o,e,h8⟩:=h6 h0
   injection e with e
   subst e
   rw [Addr.add_lit]
   have:=h8 j u hj
   rw [hW _ (World.block_lt_of_cell? w _ this)]
   exact this
  clear h6
  go_enter Tryz.func159,Tryz.ntmps159
  go_wp2_with (at_builtin;refine jav _ rfl _ _ 83 rfl w.heap.size 87 2 16 (.agg #[.int .i64 0,.int .i64 0]) jwv yjz rfl (by decide) _ 0 [] rfl (World.ownsRow_made w #[] 0 (Nat.le_refl _) (Nat.zero_le _) (by simp)) a n c us rfl h5 (hnew.out _ (fun p hp=>(jac w _).cell hp)) h7 (by omega) (by omega) (by simp) ?_;intro v' w1 hown hgrow hmv)
  go_ret
  refine ⟨v',rfl,by simpa using hown,?_⟩
  exact ((Below.refl _ w).alloc (Nat.le_refl _) _).grown hgrow (by simp) (by intro k hk;injection hk with hk;subst hk;exact Nat.le_refl _)
theorem jwx:Tryz.prog.underlying 39=some (.slice 9):=by kernel_rfl
theorem yj1:(Tryz.prog.info? 9).map (fun i=>(i.zero,i.size,i.bytes))=some (some (.string ⟨#[]⟩),1,16):=by kernel_rfl
theorem yju (v:Value) (n:Nat) (us:List Value) (w:World) (h:Raw w 1 v n us) (hbig:n*16≤140737488355328) :
  Calls Tryz.prog 81 #[v] w fun e w'=>∃ v',e = .returned v'∧w'.ownsRow w.heap.size 9 1 v' n us∧Below w.heap.size w w':=by
 obtain ⟨A,c,rfl,h2,h3,h4,h5,h6,h7⟩:=h
 have q22:∀ (w:World) (a:Option Addr) (n c n' c':Nat),(binOp .eql 39 (.slice a n c) (.slice none n' c')).run Tryz.prog w = .ok (.bool a.isNone) w:=fun w a n c n' c'=>Lib.run_eql_slice_nil w _ _ a n c n' c' jwx
 cases A with
 | none =>
  have hc:=h4 rfl
  subst hc
  obtain rfl:n=0:=by omega
  obtain rfl:us = []:=List.length_eq_zero_iff.1 (by simpa using h5)
  go_enter Tryz.func81,Tryz.ntmps81
  go_wp2
  go_ret
  exact ⟨_,rfl,World.ownsRow_nil _ _ _ _,Below.refl _ _⟩
 | some a =>
  have hnew:Hid (∀ W:World,(∀ p:Addr,p.block<w.heap.size→W.cell? p=w.cell? p)→∀ j u,us[j]? = some u→W.cell? (a.add j)=some u):=by
   intro W hW j u hj
   have h0:0<n:=by
    have:=(List.getElem?_eq_some_iff.1 hj).1
    rcases Nat.eq_zero_or_pos n with h0 | h0
    ·rw [h0] at h5;omega
    ·exact h0
   obtain ⟨b,o,e,h8⟩:=h6 h0
   injection e with e
   subst e
   rw [Addr.add_lit]
   have:=h8 j u hj
   rw [hW _ (World.block_lt_of_cell? w _ this)]
   exact this
  clear h6
  go_enter Tryz.func81,Tryz.ntmps81
  go_wp2_with (at_builtin;refine jav _ rfl _ _ 39 rfl w.heap.size 9 1 16 (.string ⟨#[]⟩) jwx yj1 rfl (by decide) _ 0 [] rfl (World.ownsRow_made w #[] 0 (Nat.le_refl _) (Nat.zero_le _) (by simp)) a n c us rfl h5 (hnew.out _ (fun p hp=>(jac w _).cell hp)) h7 (by omega) (by omega) (by simp) ?_;intro v' w1 hown hgrow hmv)
  go_ret
  refine ⟨v',rfl,by simpa using hown,?_⟩
  exact ((Below.refl _ w).alloc (Nat.le_refl _) _).grown hgrow (by simp) (by intro k hk;injection hk with hk;subst hk;exact Nat.le_refl _)
end Go.Proofs.YthmlndmlnlfhnaaGreatDoor
