/- Texts on the program that the proof leans on, part 49. -/
import Derived.Test.YtjgpghaofhcfnaaYbv
set_option linter.unusedVariables false
set_option linter.unusedSimpArgs false

namespace Go.Proofs.Ytjgpghaofhcfnaa
open Go.RowKit
def badList (θ : Nat → Nat) : List (Value × Value × Ld.Bk) := [((.slice none 0 0), (.slice none 0 0), zBk), ((.slice (some ⟨θ 1, 0, none⟩) 4 4), (.slice none 0 0), Ld.ownB), ((.slice (some ⟨θ 2, 0, none⟩) 4 4), (.slice none 0 0), Ld.ownB), ((.slice (some ⟨θ 3, 0, none⟩) 4 4), (.slice none 0 0), Ld.ownB), ((.slice (some ⟨θ 4, 0, none⟩) 4 4), (.slice none 0 0), Ld.ownB), ((.slice (some ⟨θ 5, 0, none⟩) 4 4), (.slice none 0 0), Ld.ownB), ((.slice (some ⟨θ 6, 0, none⟩) 4 4), (.slice none 0 0), Ld.ownB), ((.slice (some ⟨θ 7, 0, none⟩) 4 4), (.slice none 0 0), Ld.ownB), ((.slice (some ⟨θ 8, 0, none⟩) 4 4), (.slice none 0 0), Ld.ownB), ((.slice (some ⟨θ 9, 0, none⟩) 4 4), (.slice none 0 0), Ld.ownB), ((.slice (some ⟨θ 10, 0, none⟩) 4 4), (.slice none 0 0), Ld.ownB), ((.slice (some ⟨θ 13, 0, none⟩) 4 4), (.slice (some ⟨θ 12, 0, none⟩) 1 1), (Ld.bookOf [⟨4, 0, 0⟩])), ((.slice (some ⟨θ 16, 0, none⟩) 4 4), (.slice (some ⟨θ 15, 0, none⟩) 1 1), (Ld.bookOf [⟨0, 2, 0⟩])), ((.slice (some ⟨θ 19, 0, none⟩) 4 4), (.slice (some ⟨θ 18, 0, none⟩) 1 1), (Ld.bookOf [⟨0, 0, 121⟩])), ((.slice (some ⟨θ 21, 0, none⟩) 4 4), (.slice (some ⟨θ 20, 0, none⟩) 7 7), (Ld.bookOf [⟨0, 0, 0⟩, ⟨0, 0, 0⟩, ⟨0, 0, 0⟩, ⟨0, 0, 0⟩, ⟨0, 0, 0⟩, ⟨0, 0, 0⟩, ⟨0, 0, 0⟩]))]
def badRow (θ : Nat → Nat) : Obj := .cells (cellsOf (badList θ)) 30 (0, 0)
theorem knRow_lt {i : Nat} (h : (knRow i).isSome = true) : i < 24 := by
 rcases Nat.lt_or_ge i 24 with h1 | h1
 · exact h1
 · unfold knRow at h
   rw [if_neg (by omega), if_neg (by omega), if_neg (by omega), if_neg (by omega), if_neg (by omega)] at h
   cases h
set_option maxRecDepth 100000 in
set_option maxHeartbeats 8000000 in
theorem known_first1 {s0 s1 s2 s3 s4 s5 s6 s7 s8 s9 s10 s11 s12 s13 s14 s15 s16 s17 s18 s19 s20 s21 s22 s23 s24 s25 s26 s27 s28 s29 s30 s31 s32 s33 s34 s35 s36 s37 s38 s39 s40 s41 s42 s43 s44 s45 s46 s47 s48 s49 s50 s51 s52 s53 s54 s55 s56 s57 s58 s59 s60 s61 s62 s63 s64 s65 s66 s67 s68 s69 s70 s71 s72 s73 s74 s75 s76 s77 s78 s79 s80 s81 s82 s83 s84 s85 s86 s87 s88 s89 s90 s91 s92 s93 s94 s95 s96 s97 s98 s99 s100 s101 s102 s103 s104 s105 s106 s107 s108 s109 s110 s111 s112 s113 s114 s115 s116 s117 s118 s119 s120 s121 s122 s123 s124 s125 s126 s127 s128 s129 s130 s131 s132 s133 s134 s135 s136 s137 s138 s139 s140 s141 s142 s143 s144 s145 s146 s147 s148 s149 s150 s151 s152 s153 s154 s155 s156 s157 s158 s159 s160 s161 s162 s163 s164 s165 s166 s167 s168 s169 s170 s171 s172 s173 s174 s175 s176 s177 s178 s179 s180 s181 s182 s183 s184 s185 s186 s187 s188 s189 s190 s191 s192 s193 s194 s195 s196 s197 s198 s199 s200 s201 s202 s203 s204 s205 s206 s207 s208 s209 s210 s211 s212 s213 s214 s215 s216 s217 s218 s219 s220 s221 s222 s223 s224 s225 s226 s227 s228 s229 s230 s231 s232 s233 s234 s235 s236 s237 s238 s239 s240 s241 s242 s243 s244 s245 s246 s247 s248 s249 s250 s251 s252 s253 s254 s255 s256 s257 s258 s259 s260 s261 s262 s263 s264 s265 s266 s267 s268 s269 s270 s271 s272 s273 s274 s275 s276 s277 s278 s279 s280 s281 s282 s283 s284 s285 s286 s287 s288 s289 s290 s291 s292 s293 s294 s295 s296 s297 s298 s299 s300 s301 s302 s303 s304 s305 s306 s307 s308 s309 s310 s311 s312 s313 s314 s315 s316 s317 s318 s319 s320 s321 s322 s323 s324 s325 s326 s327 s328 s329 s330 s331 s332 s333 s334 s335 s336 s337 s338 s339 s340 s341 s342 s343 s344 s345 s346 s347 s348 s349 s350 s351 s352 s353 s354 s355 s356 s357 s358 s359 s360 s361 s362 s363 s364 s365 s366 s367 s368 s369 s370 s371 s372 s373 s374 s375 s376 s377 s378 s379 s380 s381 s382 s383 s384 s385 s386 s387 s388 s389 s390 s391 s392 s393 s394 s395 s396 s397 s398 s399 s400 s401 s402 s403 s404 s405 s406 s407 s408 s409 s410 s411 s412 s413 s414 s415 s416 s417 s418 s419 s420 s421 s422 s423 s424 s425 s426 s427 s428 s429 s430 s431 s432 s433 s434 s435 s436 s437 s438 s439 s440 s441 s442 s443 s444 s445 s446 s447 s448 s449 s450 s451 s452 s453 s454 s455 s456 s457 s458 s459 s460 s461 s462 s463 s464 s465 s466 s467 s468 s469 s470 s471 s472 s473 s474 s475 s476 s477 s478 s479 s480 s481 s482 s483 s484 s485 s486 s487 s488 s489 s490 s491 s492 s493 s494 s495 : Value} {w : World} {df : List Deferred} {A : Act} (hA : A = { tmps := List.toArray (s0 :: s1 :: s2 :: s3 :: s4 :: s5 :: s6 :: s7 :: s8 :: s9 :: s10 :: s11 :: s12 :: s13 :: s14 :: s15 :: s16 :: s17 :: s18 :: s19 :: s20 :: s21 :: s22 :: s23 :: s24 :: s25 :: s26 :: s27 :: s28 :: s29 :: s30 :: s31 :: s32 :: s33 :: s34 :: s35 :: s36 :: s37 :: s38 :: s39 :: s40 :: s41 :: s42 :: s43 :: s44 :: s45 :: s46 :: s47 :: s48 :: s49 :: s50 :: s51 :: s52 :: s53 :: s54 :: s55 :: s56 :: s57 :: s58 :: s59 :: s60 :: s61 :: s62 :: s63 :: s64 :: s65 :: s66 :: s67 :: s68 :: s69 :: s70 :: s71 :: s72 :: s73 :: s74 :: s75 :: s76 :: s77 :: s78 :: s79 :: s80 :: s81 :: s82 :: s83 :: s84 :: s85 :: s86 :: s87 :: s88 :: s89 :: s90 :: s91 :: s92 :: s93 :: s94 :: s95 :: s96 :: s97 :: s98 :: s99 :: s100 :: s101 :: s102 :: s103 :: s104 :: s105 :: s106 :: s107 :: s108 :: s109 :: s110 :: s111 :: s112 :: s113 :: s114 :: s115 :: s116 :: s117 :: s118 :: s119 :: s120 :: s121 :: s122 :: s123 :: s124 :: s125 :: s126 :: s127 :: s128 :: s129 :: s130 :: s131 :: s132 :: s133 :: s134 :: s135 :: s136 :: s137 :: s138 :: s139 :: s140 :: s141 :: s142 :: s143 :: s144 :: s145 :: s146 :: s147 :: s148 :: s149 :: s150 :: s151 :: s152 :: s153 :: s154 :: s155 :: s156 :: s157 :: s158 :: s159 :: s160 :: s161 :: s162 :: s163 :: s164 :: s165 :: s166 :: s167 :: s168 :: s169 :: s170 :: s171 :: s172 :: s173 :: s174 :: s175 :: s176 :: s177 :: s178 :: s179 :: s180 :: s181 :: s182 :: s183 :: s184 :: s185 :: s186 :: s187 :: s188 :: s189 :: s190 :: s191 :: s192 :: s193 :: s194 :: s195 :: s196 :: s197 :: s198 :: s199 :: s200 :: s201 :: s202 :: s203 :: s204 :: s205 :: s206 :: s207 :: s208 :: s209 :: s210 :: s211 :: s212 :: s213 :: s214 :: s215 :: s216 :: s217 :: s218 :: s219 :: s220 :: s221 :: s222 :: s223 :: s224 :: s225 :: s226 :: s227 :: s228 :: s229 :: s230 :: s231 :: s232 :: s233 :: s234 :: s235 :: s236 :: s237 :: s238 :: s239 :: s240 :: s241 :: s242 :: s243 :: s244 :: s245 :: s246 :: s247 :: s248 :: s249 :: s250 :: s251 :: s252 :: s253 :: s254 :: s255 :: s256 :: s257 :: s258 :: s259 :: s260 :: s261 :: s262 :: s263 :: s264 :: s265 :: s266 :: s267 :: s268 :: s269 :: s270 :: s271 :: s272 :: s273 :: s274 :: s275 :: s276 :: s277 :: s278 :: s279 :: s280 :: s281 :: s282 :: s283 :: s284 :: s285 :: s286 :: s287 :: s288 :: s289 :: s290 :: s291 :: s292 :: s293 :: s294 :: s295 :: s296 :: s297 :: s298 :: s299 :: s300 :: s301 :: s302 :: s303 :: s304 :: s305 :: s306 :: s307 :: s308 :: s309 :: s310 :: s311 :: s312 :: s313 :: s314 :: s315 :: s316 :: s317 :: s318 :: s319 :: s320 :: s321 :: s322 :: s323 :: s324 :: s325 :: s326 :: s327 :: s328 :: s329 :: s330 :: s331 :: s332 :: s333 :: s334 :: s335 :: s336 :: s337 :: s338 :: s339 :: s340 :: s341 :: s342 :: s343 :: s344 :: s345 :: s346 :: s347 :: s348 :: s349 :: s350 :: s351 :: s352 :: s353 :: s354 :: s355 :: s356 :: s357 :: s358 :: s359 :: s360 :: s361 :: s362 :: s363 :: s364 :: s365 :: s366 :: s367 :: s368 :: s369 :: s370 :: s371 :: s372 :: s373 :: s374 :: s375 :: s376 :: s377 :: s378 :: s379 :: s380 :: s381 :: s382 :: s383 :: s384 :: s385 :: s386 :: s387 :: s388 :: s389 :: s390 :: s391 :: s392 :: s393 :: s394 :: s395 :: s396 :: s397 :: s398 :: s399 :: s400 :: s401 :: s402 :: s403 :: s404 :: s405 :: s406 :: s407 :: s408 :: s409 :: s410 :: s411 :: s412 :: s413 :: s414 :: s415 :: s416 :: s417 :: s418 :: s419 :: s420 :: s421 :: s422 :: s423 :: s424 :: s425 :: s426 :: s427 :: s428 :: s429 :: s430 :: s431 :: s432 :: s433 :: s434 :: s435 :: s436 :: s437 :: s438 :: s439 :: s440 :: s441 :: s442 :: s443 :: s444 :: s445 :: s446 :: s447 :: s448 :: s449 :: s450 :: s451 :: s452 :: s453 :: s454 :: s455 :: s456 :: s457 :: s458 :: s459 :: s460 :: s461 :: s462 :: s463 :: s464 :: s465 :: s466 :: s467 :: s468 :: s469 :: s470 :: s471 :: s472 :: s473 :: s474 :: s475 :: s476 :: s477 :: s478 :: s479 :: s480 :: s481 :: s482 :: s483 :: s484 :: s485 :: s486 :: s487 :: s488 :: s489 :: s490 :: s491 :: s492 :: s493 :: s494 :: s495 :: []), defers := df }) {R : Act → World → Prop} (HR : Hid (R = fun a' w' => ∃ θ : Nat → Nat, (∃ u52 u53 u54 u55 u56 u57 u58 u59 u60 u61 u62 u63 u64 u65 u66 u67 u68 u69 u70 u71 u72 u73 u74, a' = ((((((((((((((((((((((((A.put (some 52) u52).put (some 53) u53).put (some 54) u54).put (some 55) u55).put (some 56) u56).put (some 57) u57).put (some 58) u58).put (some 59) u59).put (some 60) u60).put (some 61) u61).put (some 62) u62).put (some 63) u63).put (some 64) u64).put (some 65) u65).put (some 66) u66).put (some 67) u67).put (some 68) u68).put (some 69) u69).put (some 70) u70).put (some 71) u71).put (some 72) u72).put (some 73) u73).put (some 74) u74).put (some 1) (.slice (some ⟨θ 22, 0, none⟩) 15 15))) ∧ KnS w (fun _ => true) θ w' ∧ w'.heap[θ 22]? = some (badRow θ) ∧ w.heap.size ≤ θ 22 ∧ ∀ i, (knRow i).isSome = true → θ i ≠ θ 22))
 : (Code.region 1 #[{ dst := some 52, op := Op.build 30 #[], type := 30, pos := "outright.go:366", after := #[], guard := none }, { dst := some 53, op := Op.call { callee := Callee.value (Operand.func 43), args := #[], argTypes := #[] }, type := 30, pos := "outright.go:366", after := #[], guard := none }, { dst := some 54, op := Op.call { callee := Callee.value (Operand.func 43), args := #[], argTypes := #[] }, type := 30, pos := "outright.go:366", after := #[{ on := 1, ground := Ground.chain }], guard := none }, { dst := some 55, op := Op.call { callee := Callee.value (Operand.func 43), args := #[], argTypes := #[] }, type := 30, pos := "outright.go:366", after := #[{ on := 2, ground := Ground.chain }], guard := none }, { dst := some 56, op := Op.call { callee := Callee.value (Operand.func 43), args := #[], argTypes := #[] }, type := 30, pos := "outright.go:366", after := #[{ on := 3, ground := Ground.chain }], guard := none }, { dst := some 57, op := Op.call { callee := Callee.value (Operand.func 43), args := #[], argTypes := #[] }, type := 30, pos := "outright.go:366", after := #[{ on := 4, ground := Ground.chain }], guard := none }, { dst := some 58, op := Op.call { callee := Callee.value (Operand.func 43), args := #[], argTypes := #[] }, type := 30, pos := "outright.go:366", after := #[{ on := 5, ground := Ground.chain }], guard := none }, { dst := some 59, op := Op.call { callee := Callee.value (Operand.func 43), args := #[], argTypes := #[] }, type := 30, pos := "outright.go:366", after := #[{ on := 6, ground := Ground.chain }], guard := none }, { dst := some 60, op := Op.call { callee := Callee.value (Operand.func 43), args := #[], argTypes := #[] }, type := 30, pos := "outright.go:366", after := #[{ on := 7, ground := Ground.chain }], guard := none }, { dst := some 61, op := Op.call { callee := Callee.value (Operand.func 43), args := #[], argTypes := #[] }, type := 30, pos := "outright.go:366", after := #[{ on := 8, ground := Ground.chain }], guard := none }, { dst := some 62, op := Op.call { callee := Callee.value (Operand.func 43), args := #[], argTypes := #[] }, type := 30, pos := "outright.go:366", after := #[{ on := 9, ground := Ground.chain }], guard := none }, { dst := some 63, op := Op.build 64 #[(0, Operand.const (Value.int IntKind.i64 4))], type := 64, pos := "outright.go:366", after := #[], guard := none }, { dst := some 64, op := Op.buildSlice 28 1 #[(0, Operand.tmp 63)], type := 28, pos := "outright.go:366", after := #[{ on := 11, ground := Ground.data }], guard := none }, { dst := some 65, op := Op.call { callee := Callee.value (Operand.func 44), args := #[Operand.tmp 64], argTypes := #[28] }, type := 30, pos := "outright.go:366", after := #[{ on := 12, ground := Ground.data }, { on := 10, ground := Ground.chain }], guard := none }, { dst := some 66, op := Op.build 64 #[(1, Operand.const (Value.int IntKind.i64 2))], type := 64, pos := "outright.go:366", after := #[], guard := none }, { dst := some 67, op := Op.buildSlice 28 1 #[(0, Operand.tmp 66)], type := 28, pos := "outright.go:366", after := #[{ on := 14, ground := Ground.data }], guard := none }, { dst := some 68, op := Op.call { callee := Callee.value (Operand.func 44), args := #[Operand.tmp 67], argTypes := #[28] }, type := 30, pos := "outright.go:366", after := #[{ on := 15, ground := Ground.data }, { on := 13, ground := Ground.chain }], guard := none }, { dst := some 69, op := Op.build 64 #[(2, Operand.const (Value.int IntKind.i64 121))], type := 64, pos := "outright.go:366", after := #[], guard := none }, { dst := some 70, op := Op.buildSlice 28 1 #[(0, Operand.tmp 69)], type := 28, pos := "outright.go:366", after := #[{ on := 17, ground := Ground.data }], guard := none }, { dst := some 71, op := Op.call { callee := Callee.value (Operand.func 44), args := #[Operand.tmp 70], argTypes := #[28] }, type := 30, pos := "outright.go:366", after := #[{ on := 18, ground := Ground.data }, { on := 16, ground := Ground.chain }], guard := none }, { dst := some 72, op := Op.makeSlice 28 (Operand.const (Value.int IntKind.i64 7)) (Operand.const (Value.int IntKind.i64 7)), type := 28, pos := "outright.go:366", after := #[], guard := none }, { dst := some 73, op := Op.call { callee := Callee.value (Operand.func 44), args := #[Operand.tmp 72], argTypes := #[28] }, type := 30, pos := "outright.go:366", after := #[{ on := 20, ground := Ground.data }, { on := 19, ground := Ground.chain }], guard := none }, { dst := some 74, op := Op.buildSlice 78 15 #[(0, Operand.tmp 52), (1, Operand.tmp 53), (2, Operand.tmp 54), (3, Operand.tmp 55), (4, Operand.tmp 56), (5, Operand.tmp 57), (6, Operand.tmp 58), (7, Operand.tmp 59), (8, Operand.tmp 60), (9, Operand.tmp 61), (10, Operand.tmp 62), (11, Operand.tmp 65), (12, Operand.tmp 68), (13, Operand.tmp 71), (14, Operand.tmp 73)], type := 78, pos := "outright.go:366", after := #[{ on := 0, ground := Ground.data }, { on := 1, ground := Ground.data }, { on := 2, ground := Ground.data }, { on := 3, ground := Ground.data }, { on := 4, ground := Ground.data }, { on := 5, ground := Ground.data }, { on := 6, ground := Ground.data }, { on := 7, ground := Ground.data }, { on := 8, ground := Ground.data }, { on := 9, ground := Ground.data }, { on := 10, ground := Ground.data }, { on := 13, ground := Ground.data }, { on := 16, ground := Ground.data }, { on := 19, ground := Ground.data }, { on := 21, ground := Ground.data }], guard := none }, { dst := some 1, op := Op.assign (Operand.tmp 74), type := 78, pos := "outright.go:366", after := #[{ on := 22, ground := Ground.data }, { on := 21, ground := Ground.chain }, { on := 0, ground := Ground.phase }, { on := 1, ground := Ground.phase }, { on := 2, ground := Ground.phase }, { on := 3, ground := Ground.phase }, { on := 4, ground := Ground.phase }, { on := 5, ground := Ground.phase }, { on := 6, ground := Ground.phase }, { on := 7, ground := Ground.phase }, { on := 8, ground := Ground.phase }, { on := 9, ground := Ground.phase }, { on := 10, ground := Ground.phase }, { on := 11, ground := Ground.phase }, { on := 12, ground := Ground.phase }, { on := 13, ground := Ground.phase }, { on := 14, ground := Ground.phase }, { on := 15, ground := Ground.phase }, { on := 16, ground := Ground.phase }, { on := 17, ground := Ground.phase }, { on := 18, ground := Ground.phase }, { on := 19, ground := Ground.phase }, { on := 20, ground := Ground.phase }, { on := 21, ground := Ground.phase }, { on := 22, ground := Ground.phase }], guard := none }] true).wp Try.prog (Mid R) A w := by
 refine wp_region_free (Θ := Nat → Nat) (vals := fun ϑ => [(vBk (.slice none 0 0) (.slice none 0 0) zBk), (vBk (.slice (some ⟨ϑ 1, 0, none⟩) 4 4) (.slice none 0 0) Ld.ownB), (vBk (.slice (some ⟨ϑ 2, 0, none⟩) 4 4) (.slice none 0 0) Ld.ownB), (vBk (.slice (some ⟨ϑ 3, 0, none⟩) 4 4) (.slice none 0 0) Ld.ownB), (vBk (.slice (some ⟨ϑ 4, 0, none⟩) 4 4) (.slice none 0 0) Ld.ownB), (vBk (.slice (some ⟨ϑ 5, 0, none⟩) 4 4) (.slice none 0 0) Ld.ownB), (vBk (.slice (some ⟨ϑ 6, 0, none⟩) 4 4) (.slice none 0 0) Ld.ownB), (vBk (.slice (some ⟨ϑ 7, 0, none⟩) 4 4) (.slice none 0 0) Ld.ownB), (vBk (.slice (some ⟨ϑ 8, 0, none⟩) 4 4) (.slice none 0 0) Ld.ownB), (vBk (.slice (some ⟨ϑ 9, 0, none⟩) 4 4) (.slice none 0 0) Ld.ownB), (vBk (.slice (some ⟨ϑ 10, 0, none⟩) 4 4) (.slice none 0 0) Ld.ownB), (.agg #[I 4, I 0, I 0]), (.slice (some ⟨ϑ 12, 0, none⟩) 1 1), (vBk (.slice (some ⟨ϑ 13, 0, none⟩) 4 4) (.slice (some ⟨ϑ 12, 0, none⟩) 1 1) (Ld.bookOf [⟨4, 0, 0⟩])), (.agg #[I 0, I 2, I 0]), (.slice (some ⟨ϑ 15, 0, none⟩) 1 1), (vBk (.slice (some ⟨ϑ 16, 0, none⟩) 4 4) (.slice (some ⟨ϑ 15, 0, none⟩) 1 1) (Ld.bookOf [⟨0, 2, 0⟩])), (.agg #[I 0, I 0, I 121]), (.slice (some ⟨ϑ 18, 0, none⟩) 1 1), (vBk (.slice (some ⟨ϑ 19, 0, none⟩) 4 4) (.slice (some ⟨ϑ 18, 0, none⟩) 1 1) (Ld.bookOf [⟨0, 0, 121⟩])), (.slice (some ⟨ϑ 20, 0, none⟩) 7 7), (vBk (.slice (some ⟨ϑ 21, 0, none⟩) 4 4) (.slice (some ⟨ϑ 20, 0, none⟩) 7 7) (Ld.bookOf [⟨0, 0, 0⟩, ⟨0, 0, 0⟩, ⟨0, 0, 0⟩, ⟨0, 0, 0⟩, ⟨0, 0, 0⟩, ⟨0, 0, 0⟩, ⟨0, 0, 0⟩])), (.slice (some ⟨ϑ 22, 0, none⟩) 15 15), (.slice (some ⟨ϑ 22, 0, none⟩) 15 15)]) (F := fun ϑ => ({ tmps := List.toArray (s0 :: (.slice (some ⟨ϑ 22, 0, none⟩) 15 15) :: s2 :: s3 :: s4 :: s5 :: s6 :: s7 :: s8 :: s9 :: s10 :: s11 :: s12 :: s13 :: s14 :: s15 :: s16 :: s17 :: s18 :: s19 :: s20 :: s21 :: s22 :: s23 :: s24 :: s25 :: s26 :: s27 :: s28 :: s29 :: s30 :: s31 :: s32 :: s33 :: s34 :: s35 :: s36 :: s37 :: s38 :: s39 :: s40 :: s41 :: s42 :: s43 :: s44 :: s45 :: s46 :: s47 :: s48 :: s49 :: s50 :: s51 :: (vBk (.slice none 0 0) (.slice none 0 0) zBk) :: (vBk (.slice (some ⟨ϑ 1, 0, none⟩) 4 4) (.slice none 0 0) Ld.ownB) :: (vBk (.slice (some ⟨ϑ 2, 0, none⟩) 4 4) (.slice none 0 0) Ld.ownB) :: (vBk (.slice (some ⟨ϑ 3, 0, none⟩) 4 4) (.slice none 0 0) Ld.ownB) :: (vBk (.slice (some ⟨ϑ 4, 0, none⟩) 4 4) (.slice none 0 0) Ld.ownB) :: (vBk (.slice (some ⟨ϑ 5, 0, none⟩) 4 4) (.slice none 0 0) Ld.ownB) :: (vBk (.slice (some ⟨ϑ 6, 0, none⟩) 4 4) (.slice none 0 0) Ld.ownB) :: (vBk (.slice (some ⟨ϑ 7, 0, none⟩) 4 4) (.slice none 0 0) Ld.ownB) :: (vBk (.slice (some ⟨ϑ 8, 0, none⟩) 4 4) (.slice none 0 0) Ld.ownB) :: (vBk (.slice (some ⟨ϑ 9, 0, none⟩) 4 4) (.slice none 0 0) Ld.ownB) :: (vBk (.slice (some ⟨ϑ 10, 0, none⟩) 4 4) (.slice none 0 0) Ld.ownB) :: (.agg #[I 4, I 0, I 0]) :: (.slice (some ⟨ϑ 12, 0, none⟩) 1 1) :: (vBk (.slice (some ⟨ϑ 13, 0, none⟩) 4 4) (.slice (some ⟨ϑ 12, 0, none⟩) 1 1) (Ld.bookOf [⟨4, 0, 0⟩])) :: (.agg #[I 0, I 2, I 0]) :: (.slice (some ⟨ϑ 15, 0, none⟩) 1 1) :: (vBk (.slice (some ⟨ϑ 16, 0, none⟩) 4 4) (.slice (some ⟨ϑ 15, 0, none⟩) 1 1) (Ld.bookOf [⟨0, 2, 0⟩])) :: (.agg #[I 0, I 0, I 121]) :: (.slice (some ⟨ϑ 18, 0, none⟩) 1 1) :: (vBk (.slice (some ⟨ϑ 19, 0, none⟩) 4 4) (.slice (some ⟨ϑ 18, 0, none⟩) 1 1) (Ld.bookOf [⟨0, 0, 121⟩])) :: (.slice (some ⟨ϑ 20, 0, none⟩) 7 7) :: (vBk (.slice (some ⟨ϑ 21, 0, none⟩) 4 4) (.slice (some ⟨ϑ 20, 0, none⟩) 7 7) (Ld.bookOf [⟨0, 0, 0⟩, ⟨0, 0, 0⟩, ⟨0, 0, 0⟩, ⟨0, 0, 0⟩, ⟨0, 0, 0⟩, ⟨0, 0, 0⟩, ⟨0, 0, 0⟩])) :: (.slice (some ⟨ϑ 22, 0, none⟩) 15 15) :: s75 :: s76 :: s77 :: s78 :: s79 :: s80 :: s81 :: s82 :: s83 :: s84 :: s85 :: s86 :: s87 :: s88 :: s89 :: s90 :: s91 :: s92 :: s93 :: s94 :: s95 :: s96 :: s97 :: s98 :: s99 :: s100 :: s101 :: s102 :: s103 :: s104 :: s105 :: s106 :: s107 :: s108 :: s109 :: s110 :: s111 :: s112 :: s113 :: s114 :: s115 :: s116 :: s117 :: s118 :: s119 :: s120 :: s121 :: s122 :: s123 :: s124 :: s125 :: s126 :: s127 :: s128 :: s129 :: s130 :: s131 :: s132 :: s133 :: s134 :: s135 :: s136 :: s137 :: s138 :: s139 :: s140 :: s141 :: s142 :: s143 :: s144 :: s145 :: s146 :: s147 :: s148 :: s149 :: s150 :: s151 :: s152 :: s153 :: s154 :: s155 :: s156 :: s157 :: s158 :: s159 :: s160 :: s161 :: s162 :: s163 :: s164 :: s165 :: s166 :: s167 :: s168 :: s169 :: s170 :: s171 :: s172 :: s173 :: s174 :: s175 :: s176 :: s177 :: s178 :: s179 :: s180 :: s181 :: s182 :: s183 :: s184 :: s185 :: s186 :: s187 :: s188 :: s189 :: s190 :: s191 :: s192 :: s193 :: s194 :: s195 :: s196 :: s197 :: s198 :: s199 :: s200 :: s201 :: s202 :: s203 :: s204 :: s205 :: s206 :: s207 :: s208 :: s209 :: s210 :: s211 :: s212 :: s213 :: s214 :: s215 :: s216 :: s217 :: s218 :: s219 :: s220 :: s221 :: s222 :: s223 :: s224 :: s225 :: s226 :: s227 :: s228 :: s229 :: s230 :: s231 :: s232 :: s233 :: s234 :: s235 :: s236 :: s237 :: s238 :: s239 :: s240 :: s241 :: s242 :: s243 :: s244 :: s245 :: s246 :: s247 :: s248 :: s249 :: s250 :: s251 :: s252 :: s253 :: s254 :: s255 :: s256 :: s257 :: s258 :: s259 :: s260 :: s261 :: s262 :: s263 :: s264 :: s265 :: s266 :: s267 :: s268 :: s269 :: s270 :: s271 :: s272 :: s273 :: s274 :: s275 :: s276 :: s277 :: s278 :: s279 :: s280 :: s281 :: s282 :: s283 :: s284 :: s285 :: s286 :: s287 :: s288 :: s289 :: s290 :: s291 :: s292 :: s293 :: s294 :: s295 :: s296 :: s297 :: s298 :: s299 :: s300 :: s301 :: s302 :: s303 :: s304 :: s305 :: s306 :: s307 :: s308 :: s309 :: s310 :: s311 :: s312 :: s313 :: s314 :: s315 :: s316 :: s317 :: s318 :: s319 :: s320 :: s321 :: s322 :: s323 :: s324 :: s325 :: s326 :: s327 :: s328 :: s329 :: s330 :: s331 :: s332 :: s333 :: s334 :: s335 :: s336 :: s337 :: s338 :: s339 :: s340 :: s341 :: s342 :: s343 :: s344 :: s345 :: s346 :: s347 :: s348 :: s349 :: s350 :: s351 :: s352 :: s353 :: s354 :: s355 :: s356 :: s357 :: s358 :: s359 :: s360 :: s361 :: s362 :: s363 :: s364 :: s365 :: s366 :: s367 :: s368 :: s369 :: s370 :: s371 :: s372 :: s373 :: s374 :: s375 :: s376 :: s377 :: s378 :: s379 :: s380 :: s381 :: s382 :: s383 :: s384 :: s385 :: s386 :: s387 :: s388 :: s389 :: s390 :: s391 :: s392 :: s393 :: s394 :: s395 :: s396 :: s397 :: s398 :: s399 :: s400 :: s401 :: s402 :: s403 :: s404 :: s405 :: s406 :: s407 :: s408 :: s409 :: s410 :: s411 :: s412 :: s413 :: s414 :: s415 :: s416 :: s417 :: s418 :: s419 :: s420 :: s421 :: s422 :: s423 :: s424 :: s425 :: s426 :: s427 :: s428 :: s429 :: s430 :: s431 :: s432 :: s433 :: s434 :: s435 :: s436 :: s437 :: s438 :: s439 :: s440 :: s441 :: s442 :: s443 :: s444 :: s445 :: s446 :: s447 :: s448 :: s449 :: s450 :: s451 :: s452 :: s453 :: s454 :: s455 :: s456 :: s457 :: s458 :: s459 :: s460 :: s461 :: s462 :: s463 :: s464 :: s465 :: s466 :: s467 :: s468 :: s469 :: s470 :: s471 :: s472 :: s473 :: s474 :: s475 :: s476 :: s477 :: s478 :: s479 :: s480 :: s481 :: s482 :: s483 :: s484 :: s485 :: s486 :: s487 :: s488 :: s489 :: s490 :: s491 :: s492 :: s493 :: s494 :: s495 :: []), defers := df } : Act)) (S := fun d ϑ w' => KnS w d ϑ w' ∧ (d 22 = true → w'.heap[ϑ 22]? = some (badRow ϑ) ∧ w.heap.size ≤ ϑ 22 ∧ ∀ i, (knRow i).isSome = true → ϑ i ≠ ϑ 22)) (by kernel_rfl) (inOrder_of (by kernel_rfl)) (by kernel_rfl) (fun ϑ => rfl) (fun ϑ => by subst hA; kernel_rfl) (fun _ => 0) ?h0 ?hstep ?hend
 case h0 =>
  exact ⟨⟨held_start _, fun i o h => by (cases h), fun i j h => by (cases h), fun i h => by (cases h)⟩, fun h => by cases h⟩
 case hstep =>
  rintro d θ wq i o hd ho hdep hclosed hS
  have hlt : i < 24 := (Array.getElem?_eq_some_iff.1 ho).1
  try dsimp only at hS
  have hi : i = 0 ∨ i = 1 ∨ i = 2 ∨ i = 3 ∨ i = 4 ∨ i = 5 ∨ i = 6 ∨ i = 7 ∨ i = 8 ∨ i = 9 ∨ i = 10 ∨ i = 11 ∨ i = 12 ∨ i = 13 ∨ i = 14 ∨ i = 15 ∨ i = 16 ∨ i = 17 ∨ i = 18 ∨ i = 19 ∨ i = 20 ∨ i = 21 ∨ i = 22 ∨ i = 23 := by omega
  rcases hi with rfl | rfl | rfl | rfl | rfl | rfl | rfl | rfl | rfl | rfl | rfl | rfl | rfl | rfl | rfl | rfl | rfl | rfl | rfl | rfl | rfl | rfl | rfl | rfl
  · simp only [↓List.getElem?_toArray, ↓List.getElem?_cons_zero, ↓List.getElem?_cons_succ, Option.some.injEq] at ho
    subst ho
    refine .inl ⟨by kernel_rfl, FreeS.keep fun K hK => ?_⟩
    try dsimp only
    have h22 : d 22 = false := by
     cases h : d 22 with
     | false => rfl
     | true =>
      have h_0 := closed_at hclosed (k := 22) (j := 0) h (by kernel_rfl)
      rw [hd] at h_0
      cases h_0
    go_simp
    exact FreeS.val (hK _ _ ⟨θ, rfl, fun _ _ => rfl, hS.1.keep (Below.refl _ _) 0 rfl, fun h => by have h : d 22 = true := h; rw [h22] at h; cases h⟩)
  · simp only [↓List.getElem?_toArray, ↓List.getElem?_cons_zero, ↓List.getElem?_cons_succ, Option.some.injEq] at ho
    subst ho
    refine .inl ⟨by kernel_rfl, FreeS.keep fun K hK => ?_⟩
    try dsimp only
    have h22 : d 22 = false := by
     cases h : d 22 with
     | false => rfl
     | true =>
      have h_1 := closed_at hclosed (k := 22) (j := 1) h (by kernel_rfl)
      rw [hd] at h_1
      cases h_1
    go_simp
    refine FreeS.enter ((ownN_any wq).mono fun e w'' h => ?_)
    obtain ⟨⟨g, he, hg, hlt⟩, hB⟩ := h
    refine ⟨_, he, hK _ _ ⟨(fun k => if k = 1 then g else θ k), rfl, ?_, hS.1.step hB 1 g (Nat.le_of_lt hlt) (fun o ho => ?_), fun h => by have h : d 22 = true := h; rw [h22] at h; cases h⟩⟩
    · intro k hk
      rcases Nat.lt_or_ge k 24 with hkN | hkN
      · have hk' : k = 1 ∨ (k = 0 ∨ k = 2 ∨ k = 3 ∨ k = 4 ∨ k = 5 ∨ k = 6 ∨ k = 7 ∨ k = 8 ∨ k = 9 ∨ k = 10 ∨ k = 11 ∨ k = 12 ∨ k = 13 ∨ k = 14 ∨ k = 15 ∨ k = 16 ∨ k = 17 ∨ k = 18 ∨ k = 19 ∨ k = 20 ∨ k = 21 ∨ k = 22 ∨ k = 23) := by omega
        rcases hk' with rfl | hk'
        · rw [hd] at hk; cases hk
        · rcases hk' with rfl | rfl | rfl | rfl | rfl | rfl | rfl | rfl | rfl | rfl | rfl | rfl | rfl | rfl | rfl | rfl | rfl | rfl | rfl | rfl | rfl | rfl | rfl <;> rfl
      · rw [List.getElem?_eq_none (by simpa using hkN), List.getElem?_eq_none (by simpa using hkN)]
    · have e : tideRow = o := Option.some.inj ho
      rw [← e]
      exact hg
  · simp only [↓List.getElem?_toArray, ↓List.getElem?_cons_zero, ↓List.getElem?_cons_succ, Option.some.injEq] at ho
    subst ho
    refine .inl ⟨by kernel_rfl, FreeS.keep fun K hK => ?_⟩
    try dsimp only
    have h22 : d 22 = false := by
     cases h : d 22 with
     | false => rfl
     | true =>
      have h_2 := closed_at hclosed (k := 22) (j := 2) h (by kernel_rfl)
      rw [hd] at h_2
      cases h_2
    go_simp
    refine FreeS.enter ((ownN_any wq).mono fun e w'' h => ?_)
    obtain ⟨⟨g, he, hg, hlt⟩, hB⟩ := h
    refine ⟨_, he, hK _ _ ⟨(fun k => if k = 2 then g else θ k), rfl, ?_, hS.1.step hB 2 g (Nat.le_of_lt hlt) (fun o ho => ?_), fun h => by have h : d 22 = true := h; rw [h22] at h; cases h⟩⟩
    · intro k hk
      rcases Nat.lt_or_ge k 24 with hkN | hkN
      · have hk' : k = 2 ∨ (k = 0 ∨ k = 1 ∨ k = 3 ∨ k = 4 ∨ k = 5 ∨ k = 6 ∨ k = 7 ∨ k = 8 ∨ k = 9 ∨ k = 10 ∨ k = 11 ∨ k = 12 ∨ k = 13 ∨ k = 14 ∨ k = 15 ∨ k = 16 ∨ k = 17 ∨ k = 18 ∨ k = 19 ∨ k = 20 ∨ k = 21 ∨ k = 22 ∨ k = 23) := by omega
        rcases hk' with rfl | hk'
        · rw [hd] at hk; cases hk
        · rcases hk' with rfl | rfl | rfl | rfl | rfl | rfl | rfl | rfl | rfl | rfl | rfl | rfl | rfl | rfl | rfl | rfl | rfl | rfl | rfl | rfl | rfl | rfl | rfl <;> rfl
      · rw [List.getElem?_eq_none (by simpa using hkN), List.getElem?_eq_none (by simpa using hkN)]
    · have e : tideRow = o := Option.some.inj ho
      rw [← e]
      exact hg
  · simp only [↓List.getElem?_toArray, ↓List.getElem?_cons_zero, ↓List.getElem?_cons_succ, Option.some.injEq] at ho
    subst ho
    refine .inl ⟨by kernel_rfl, FreeS.keep fun K hK => ?_⟩
    try dsimp only
    have h22 : d 22 = false := by
     cases h : d 22 with
     | false => rfl
     | true =>
      have h_3 := closed_at hclosed (k := 22) (j := 3) h (by kernel_rfl)
      rw [hd] at h_3
      cases h_3
    go_simp
    refine FreeS.enter ((ownN_any wq).mono fun e w'' h => ?_)
    obtain ⟨⟨g, he, hg, hlt⟩, hB⟩ := h
    refine ⟨_, he, hK _ _ ⟨(fun k => if k = 3 then g else θ k), rfl, ?_, hS.1.step hB 3 g (Nat.le_of_lt hlt) (fun o ho => ?_), fun h => by have h : d 22 = true := h; rw [h22] at h; cases h⟩⟩
    · intro k hk
      rcases Nat.lt_or_ge k 24 with hkN | hkN
      · have hk' : k = 3 ∨ (k = 0 ∨ k = 1 ∨ k = 2 ∨ k = 4 ∨ k = 5 ∨ k = 6 ∨ k = 7 ∨ k = 8 ∨ k = 9 ∨ k = 10 ∨ k = 11 ∨ k = 12 ∨ k = 13 ∨ k = 14 ∨ k = 15 ∨ k = 16 ∨ k = 17 ∨ k = 18 ∨ k = 19 ∨ k = 20 ∨ k = 21 ∨ k = 22 ∨ k = 23) := by omega
        rcases hk' with rfl | hk'
        · rw [hd] at hk; cases hk
        · rcases hk' with rfl | rfl | rfl | rfl | rfl | rfl | rfl | rfl | rfl | rfl | rfl | rfl | rfl | rfl | rfl | rfl | rfl | rfl | rfl | rfl | rfl | rfl | rfl <;> rfl
      · rw [List.getElem?_eq_none (by simpa using hkN), List.getElem?_eq_none (by simpa using hkN)]
    · have e : tideRow = o := Option.some.inj ho
      rw [← e]
      exact hg
  · simp only [↓List.getElem?_toArray, ↓List.getElem?_cons_zero, ↓List.getElem?_cons_succ, Option.some.injEq] at ho
    subst ho
    refine .inl ⟨by kernel_rfl, FreeS.keep fun K hK => ?_⟩
    try dsimp only
    have h22 : d 22 = false := by
     cases h : d 22 with
     | false => rfl
     | true =>
      have h_4 := closed_at hclosed (k := 22) (j := 4) h (by kernel_rfl)
      rw [hd] at h_4
      cases h_4
    go_simp
    refine FreeS.enter ((ownN_any wq).mono fun e w'' h => ?_)
    obtain ⟨⟨g, he, hg, hlt⟩, hB⟩ := h
    refine ⟨_, he, hK _ _ ⟨(fun k => if k = 4 then g else θ k), rfl, ?_, hS.1.step hB 4 g (Nat.le_of_lt hlt) (fun o ho => ?_), fun h => by have h : d 22 = true := h; rw [h22] at h; cases h⟩⟩
    · intro k hk
      rcases Nat.lt_or_ge k 24 with hkN | hkN
      · have hk' : k = 4 ∨ (k = 0 ∨ k = 1 ∨ k = 2 ∨ k = 3 ∨ k = 5 ∨ k = 6 ∨ k = 7 ∨ k = 8 ∨ k = 9 ∨ k = 10 ∨ k = 11 ∨ k = 12 ∨ k = 13 ∨ k = 14 ∨ k = 15 ∨ k = 16 ∨ k = 17 ∨ k = 18 ∨ k = 19 ∨ k = 20 ∨ k = 21 ∨ k = 22 ∨ k = 23) := by omega
        rcases hk' with rfl | hk'
        · rw [hd] at hk; cases hk
        · rcases hk' with rfl | rfl | rfl | rfl | rfl | rfl | rfl | rfl | rfl | rfl | rfl | rfl | rfl | rfl | rfl | rfl | rfl | rfl | rfl | rfl | rfl | rfl | rfl <;> rfl
      · rw [List.getElem?_eq_none (by simpa using hkN), List.getElem?_eq_none (by simpa using hkN)]
    · have e : tideRow = o := Option.some.inj ho
      rw [← e]
      exact hg
  · simp only [↓List.getElem?_toArray, ↓List.getElem?_cons_zero, ↓List.getElem?_cons_succ, Option.some.injEq] at ho
    subst ho
    refine .inl ⟨by kernel_rfl, FreeS.keep fun K hK => ?_⟩
    try dsimp only
    have h22 : d 22 = false := by
     cases h : d 22 with
     | false => rfl
     | true =>
      have h_5 := closed_at hclosed (k := 22) (j := 5) h (by kernel_rfl)
      rw [hd] at h_5
      cases h_5
    go_simp
    refine FreeS.enter ((ownN_any wq).mono fun e w'' h => ?_)
    obtain ⟨⟨g, he, hg, hlt⟩, hB⟩ := h
    refine ⟨_, he, hK _ _ ⟨(fun k => if k = 5 then g else θ k), rfl, ?_, hS.1.step hB 5 g (Nat.le_of_lt hlt) (fun o ho => ?_), fun h => by have h : d 22 = true := h; rw [h22] at h; cases h⟩⟩
    · intro k hk
      rcases Nat.lt_or_ge k 24 with hkN | hkN
      · have hk' : k = 5 ∨ (k = 0 ∨ k = 1 ∨ k = 2 ∨ k = 3 ∨ k = 4 ∨ k = 6 ∨ k = 7 ∨ k = 8 ∨ k = 9 ∨ k = 10 ∨ k = 11 ∨ k = 12 ∨ k = 13 ∨ k = 14 ∨ k = 15 ∨ k = 16 ∨ k = 17 ∨ k = 18 ∨ k = 19 ∨ k = 20 ∨ k = 21 ∨ k = 22 ∨ k = 23) := by omega
        rcases hk' with rfl | hk'
        · rw [hd] at hk; cases hk
        · rcases hk' with rfl | rfl | rfl | rfl | rfl | rfl | rfl | rfl | rfl | rfl | rfl | rfl | rfl | rfl | rfl | rfl | rfl | rfl | rfl | rfl | rfl | rfl | rfl <;> rfl
      · rw [List.getElem?_eq_none (by simpa using hkN), List.getElem?_eq_none (by simpa using hkN)]
    · have e : tideRow = o := Option.some.inj ho
      rw [← e]
      exact hg
  · simp only [↓List.getElem?_toArray, ↓List.getElem?_cons_zero, ↓List.getElem?_cons_succ, Option.some.injEq] at ho
    subst ho
    refine .inl ⟨by kernel_rfl, FreeS.keep fun K hK => ?_⟩
    try dsimp only
    have h22 : d 22 = false := by
     cases h : d 22 with
     | false => rfl
     | true =>
      have h_6 := closed_at hclosed (k := 22) (j := 6) h (by kernel_rfl)
      rw [hd] at h_6
      cases h_6
    go_simp
    refine FreeS.enter ((ownN_any wq).mono fun e w'' h => ?_)
    obtain ⟨⟨g, he, hg, hlt⟩, hB⟩ := h
    refine ⟨_, he, hK _ _ ⟨(fun k => if k = 6 then g else θ k), rfl, ?_, hS.1.step hB 6 g (Nat.le_of_lt hlt) (fun o ho => ?_), fun h => by have h : d 22 = true := h; rw [h22] at h; cases h⟩⟩
    · intro k hk
      rcases Nat.lt_or_ge k 24 with hkN | hkN
      · have hk' : k = 6 ∨ (k = 0 ∨ k = 1 ∨ k = 2 ∨ k = 3 ∨ k = 4 ∨ k = 5 ∨ k = 7 ∨ k = 8 ∨ k = 9 ∨ k = 10 ∨ k = 11 ∨ k = 12 ∨ k = 13 ∨ k = 14 ∨ k = 15 ∨ k = 16 ∨ k = 17 ∨ k = 18 ∨ k = 19 ∨ k = 20 ∨ k = 21 ∨ k = 22 ∨ k = 23) := by omega
        rcases hk' with rfl | hk'
        · rw [hd] at hk; cases hk
        · rcases hk' with rfl | rfl | rfl | rfl | rfl | rfl | rfl | rfl | rfl | rfl | rfl | rfl | rfl | rfl | rfl | rfl | rfl | rfl | rfl | rfl | rfl | rfl | rfl <;> rfl
      · rw [List.getElem?_eq_none (by simpa using hkN), List.getElem?_eq_none (by simpa using hkN)]
    · have e : tideRow = o := Option.some.inj ho
      rw [← e]
      exact hg
  · simp only [↓List.getElem?_toArray, ↓List.getElem?_cons_zero, ↓List.getElem?_cons_succ, Option.some.injEq] at ho
    subst ho
    refine .inl ⟨by kernel_rfl, FreeS.keep fun K hK => ?_⟩
    try dsimp only
    have h22 : d 22 = false := by
     cases h : d 22 with
     | false => rfl
     | true =>
      have h_7 := closed_at hclosed (k := 22) (j := 7) h (by kernel_rfl)
      rw [hd] at h_7
      cases h_7
    go_simp
    refine FreeS.enter ((ownN_any wq).mono fun e w'' h => ?_)
    obtain ⟨⟨g, he, hg, hlt⟩, hB⟩ := h
    refine ⟨_, he, hK _ _ ⟨(fun k => if k = 7 then g else θ k), rfl, ?_, hS.1.step hB 7 g (Nat.le_of_lt hlt) (fun o ho => ?_), fun h => by have h : d 22 = true := h; rw [h22] at h; cases h⟩⟩
    · intro k hk
      rcases Nat.lt_or_ge k 24 with hkN | hkN
      · have hk' : k = 7 ∨ (k = 0 ∨ k = 1 ∨ k = 2 ∨ k = 3 ∨ k = 4 ∨ k = 5 ∨ k = 6 ∨ k = 8 ∨ k = 9 ∨ k = 10 ∨ k = 11 ∨ k = 12 ∨ k = 13 ∨ k = 14 ∨ k = 15 ∨ k = 16 ∨ k = 17 ∨ k = 18 ∨ k = 19 ∨ k = 20 ∨ k = 21 ∨ k = 22 ∨ k = 23) := by omega
        rcases hk' with rfl | hk'
        · rw [hd] at hk; cases hk
        · rcases hk' with rfl | rfl | rfl | rfl | rfl | rfl | rfl | rfl | rfl | rfl | rfl | rfl | rfl | rfl | rfl | rfl | rfl | rfl | rfl | rfl | rfl | rfl | rfl <;> rfl
      · rw [List.getElem?_eq_none (by simpa using hkN), List.getElem?_eq_none (by simpa using hkN)]
    · have e : tideRow = o := Option.some.inj ho
      rw [← e]
      exact hg
  · simp only [↓List.getElem?_toArray, ↓List.getElem?_cons_zero, ↓List.getElem?_cons_succ, Option.some.injEq] at ho
    subst ho
    refine .inl ⟨by kernel_rfl, FreeS.keep fun K hK => ?_⟩
    try dsimp only
    have h22 : d 22 = false := by
     cases h : d 22 with
     | false => rfl
     | true =>
      have h_8 := closed_at hclosed (k := 22) (j := 8) h (by kernel_rfl)
      rw [hd] at h_8
      cases h_8
    go_simp
    refine FreeS.enter ((ownN_any wq).mono fun e w'' h => ?_)
    obtain ⟨⟨g, he, hg, hlt⟩, hB⟩ := h
    refine ⟨_, he, hK _ _ ⟨(fun k => if k = 8 then g else θ k), rfl, ?_, hS.1.step hB 8 g (Nat.le_of_lt hlt) (fun o ho => ?_), fun h => by have h : d 22 = true := h; rw [h22] at h; cases h⟩⟩
    · intro k hk
      rcases Nat.lt_or_ge k 24 with hkN | hkN
      · have hk' : k = 8 ∨ (k = 0 ∨ k = 1 ∨ k = 2 ∨ k = 3 ∨ k = 4 ∨ k = 5 ∨ k = 6 ∨ k = 7 ∨ k = 9 ∨ k = 10 ∨ k = 11 ∨ k = 12 ∨ k = 13 ∨ k = 14 ∨ k = 15 ∨ k = 16 ∨ k = 17 ∨ k = 18 ∨ k = 19 ∨ k = 20 ∨ k = 21 ∨ k = 22 ∨ k = 23) := by omega
        rcases hk' with rfl | hk'
        · rw [hd] at hk; cases hk
        · rcases hk' with rfl | rfl | rfl | rfl | rfl | rfl | rfl | rfl | rfl | rfl | rfl | rfl | rfl | rfl | rfl | rfl | rfl | rfl | rfl | rfl | rfl | rfl | rfl <;> rfl
      · rw [List.getElem?_eq_none (by simpa using hkN), List.getElem?_eq_none (by simpa using hkN)]
    · have e : tideRow = o := Option.some.inj ho
      rw [← e]
      exact hg
  · simp only [↓List.getElem?_toArray, ↓List.getElem?_cons_zero, ↓List.getElem?_cons_succ, Option.some.injEq] at ho
    subst ho
    refine .inl ⟨by kernel_rfl, FreeS.keep fun K hK => ?_⟩
    try dsimp only
    have h22 : d 22 = false := by
     cases h : d 22 with
     | false => rfl
     | true =>
      have h_9 := closed_at hclosed (k := 22) (j := 9) h (by kernel_rfl)
      rw [hd] at h_9
      cases h_9
    go_simp
    refine FreeS.enter ((ownN_any wq).mono fun e w'' h => ?_)
    obtain ⟨⟨g, he, hg, hlt⟩, hB⟩ := h
    refine ⟨_, he, hK _ _ ⟨(fun k => if k = 9 then g else θ k), rfl, ?_, hS.1.step hB 9 g (Nat.le_of_lt hlt) (fun o ho => ?_), fun h => by have h : d 22 = true := h; rw [h22] at h; cases h⟩⟩
    · intro k hk
      rcases Nat.lt_or_ge k 24 with hkN | hkN
      · have hk' : k = 9 ∨ (k = 0 ∨ k = 1 ∨ k = 2 ∨ k = 3 ∨ k = 4 ∨ k = 5 ∨ k = 6 ∨ k = 7 ∨ k = 8 ∨ k = 10 ∨ k = 11 ∨ k = 12 ∨ k = 13 ∨ k = 14 ∨ k = 15 ∨ k = 16 ∨ k = 17 ∨ k = 18 ∨ k = 19 ∨ k = 20 ∨ k = 21 ∨ k = 22 ∨ k = 23) := by omega
        rcases hk' with rfl | hk'
        · rw [hd] at hk; cases hk
        · rcases hk' with rfl | rfl | rfl | rfl | rfl | rfl | rfl | rfl | rfl | rfl | rfl | rfl | rfl | rfl | rfl | rfl | rfl | rfl | rfl | rfl | rfl | rfl | rfl <;> rfl
      · rw [List.getElem?_eq_none (by simpa using hkN), List.getElem?_eq_none (by simpa using hkN)]
    · have e : tideRow = o := Option.some.inj ho
      rw [← e]
      exact hg
  · simp only [↓List.getElem?_toArray, ↓List.getElem?_cons_zero, ↓List.getElem?_cons_succ, Option.some.injEq] at ho
    subst ho
    refine .inl ⟨by kernel_rfl, FreeS.keep fun K hK => ?_⟩
    try dsimp only
    have h22 : d 22 = false := by
     cases h : d 22 with
     | false => rfl
     | true =>
      have h_10 := closed_at hclosed (k := 22) (j := 10) h (by kernel_rfl)
      rw [hd] at h_10
      cases h_10
    go_simp
    refine FreeS.enter ((ownN_any wq).mono fun e w'' h => ?_)
    obtain ⟨⟨g, he, hg, hlt⟩, hB⟩ := h
    refine ⟨_, he, hK _ _ ⟨(fun k => if k = 10 then g else θ k), rfl, ?_, hS.1.step hB 10 g (Nat.le_of_lt hlt) (fun o ho => ?_), fun h => by have h : d 22 = true := h; rw [h22] at h; cases h⟩⟩
    · intro k hk
      rcases Nat.lt_or_ge k 24 with hkN | hkN
      · have hk' : k = 10 ∨ (k = 0 ∨ k = 1 ∨ k = 2 ∨ k = 3 ∨ k = 4 ∨ k = 5 ∨ k = 6 ∨ k = 7 ∨ k = 8 ∨ k = 9 ∨ k = 11 ∨ k = 12 ∨ k = 13 ∨ k = 14 ∨ k = 15 ∨ k = 16 ∨ k = 17 ∨ k = 18 ∨ k = 19 ∨ k = 20 ∨ k = 21 ∨ k = 22 ∨ k = 23) := by omega
        rcases hk' with rfl | hk'
        · rw [hd] at hk; cases hk
        · rcases hk' with rfl | rfl | rfl | rfl | rfl | rfl | rfl | rfl | rfl | rfl | rfl | rfl | rfl | rfl | rfl | rfl | rfl | rfl | rfl | rfl | rfl | rfl | rfl <;> rfl
      · rw [List.getElem?_eq_none (by simpa using hkN), List.getElem?_eq_none (by simpa using hkN)]
    · have e : tideRow = o := Option.some.inj ho
      rw [← e]
      exact hg
  · simp only [↓List.getElem?_toArray, ↓List.getElem?_cons_zero, ↓List.getElem?_cons_succ, Option.some.injEq] at ho
    subst ho
    refine .inl ⟨by kernel_rfl, FreeS.keep fun K hK => ?_⟩
    try dsimp only
    have h22 : d 22 = false := by
     cases h : d 22 with
     | false => rfl
     | true =>
      have h_13 := closed_at hclosed (k := 22) (j := 13) h (by kernel_rfl)
      have h_12 := closed_at hclosed (k := 13) (j := 12) h_13 (by kernel_rfl)
      have h_11 := closed_at hclosed (k := 12) (j := 11) h_12 (by kernel_rfl)
      rw [hd] at h_11
      cases h_11
    go_simp
    exact FreeS.val (hK _ _ ⟨θ, rfl, fun _ _ => rfl, hS.1.keep (Below.refl _ _) 11 rfl, fun h => by have h : d 22 = true := h; rw [h22] at h; cases h⟩)
  · simp only [↓List.getElem?_toArray, ↓List.getElem?_cons_zero, ↓List.getElem?_cons_succ, Option.some.injEq] at ho
    subst ho
    refine .inl ⟨by kernel_rfl, FreeS.keep fun K hK => ?_⟩
    try dsimp only
    have h22 : d 22 = false := by
     cases h : d 22 with
     | false => rfl
     | true =>
      have h_13 := closed_at hclosed (k := 22) (j := 13) h (by kernel_rfl)
      have h_12 := closed_at hclosed (k := 13) (j := 12) h_13 (by kernel_rfl)
      rw [hd] at h_12
      cases h_12
    go_simp
    refine FreeS.val (hK _ _ ⟨(fun k => if k = 12 then wq.heap.size else θ k), rfl, ?_, hS.1.step ((Below.refl _ _).alloc (Nat.le_refl _) _) 12 wq.heap.size (Nat.le_refl _) (fun o ho => ?_), fun h => by have h : d 22 = true := h; rw [h22] at h; cases h⟩)
    · intro k hk
      rcases Nat.lt_or_ge k 24 with hkN | hkN
      · have hk' : k = 12 ∨ k = 13 ∨ (k = 0 ∨ k = 1 ∨ k = 2 ∨ k = 3 ∨ k = 4 ∨ k = 5 ∨ k = 6 ∨ k = 7 ∨ k = 8 ∨ k = 9 ∨ k = 10 ∨ k = 11 ∨ k = 14 ∨ k = 15 ∨ k = 16 ∨ k = 17 ∨ k = 18 ∨ k = 19 ∨ k = 20 ∨ k = 21 ∨ k = 22 ∨ k = 23) := by omega
        rcases hk' with rfl | rfl | hk'
        · rw [hd] at hk; cases hk
        · have h13 : d 13 = false := by
           cases h : d 13 with
           | false => rfl
           | true =>
            have h_12 := closed_at hclosed (k := 13) (j := 12) h (by kernel_rfl)
            rw [hd] at h_12
            cases h_12
          rw [h13] at hk
          cases hk
        · rcases hk' with rfl | rfl | rfl | rfl | rfl | rfl | rfl | rfl | rfl | rfl | rfl | rfl | rfl | rfl | rfl | rfl | rfl | rfl | rfl | rfl | rfl | rfl <;> rfl
      · rw [List.getElem?_eq_none (by simpa using hkN), List.getElem?_eq_none (by simpa using hkN)]
    · have e := Option.some.inj ho
      rw [← e]
      exact heap_at _ _ rfl
  · simp only [↓List.getElem?_toArray, ↓List.getElem?_cons_zero, ↓List.getElem?_cons_succ, Option.some.injEq] at ho
    subst ho
    refine .inl ⟨by kernel_rfl, FreeS.keep fun K hK => ?_⟩
    try dsimp only
    have h22 : d 22 = false := by
     cases h : d 22 with
     | false => rfl
     | true =>
      have h_13 := closed_at hclosed (k := 22) (j := 13) h (by kernel_rfl)
      rw [hd] at h_13
      cases h_13
    go_simp
    have h12 := hdep 12 (by kernel_rfl)
    have hrow := hS.1.rows 12 _ h12 rfl
    refine FreeS.enter ((bookN_any [⟨4, 0, 0⟩] (.slice (some ⟨θ 12, 0, none⟩) 1 1) wq (sl_new (by rfl) (by decide) (heap_lt hrow) hrow)).mono fun e w'' h => ?_)
    obtain ⟨⟨g, he, hg, hlt⟩, hB⟩ := h
    refine ⟨_, he, hK _ _ ⟨(fun k => if k = 13 then g else θ k), rfl, ?_, hS.1.step hB 13 g (Nat.le_of_lt hlt) (fun o ho => ?_), fun h => by have h : d 22 = true := h; rw [h22] at h; cases h⟩⟩
    · intro k hk
      rcases Nat.lt_or_ge k 24 with hkN | hkN
      · have hk' : k = 13 ∨ (k = 0 ∨ k = 1 ∨ k = 2 ∨ k = 3 ∨ k = 4 ∨ k = 5 ∨ k = 6 ∨ k = 7 ∨ k = 8 ∨ k = 9 ∨ k = 10 ∨ k = 11 ∨ k = 12 ∨ k = 14 ∨ k = 15 ∨ k = 16 ∨ k = 17 ∨ k = 18 ∨ k = 19 ∨ k = 20 ∨ k = 21 ∨ k = 22 ∨ k = 23) := by omega
        rcases hk' with rfl | hk'
        · rw [hd] at hk; cases hk
        · rcases hk' with rfl | rfl | rfl | rfl | rfl | rfl | rfl | rfl | rfl | rfl | rfl | rfl | rfl | rfl | rfl | rfl | rfl | rfl | rfl | rfl | rfl | rfl | rfl <;> rfl
      · rw [List.getElem?_eq_none (by simpa using hkN), List.getElem?_eq_none (by simpa using hkN)]
    · have e : tideRow = o := Option.some.inj ho
      rw [← e]
      exact hg
  · simp only [↓List.getElem?_toArray, ↓List.getElem?_cons_zero, ↓List.getElem?_cons_succ, Option.some.injEq] at ho
    subst ho
    refine .inl ⟨by kernel_rfl, FreeS.keep fun K hK => ?_⟩
    try dsimp only
    have h22 : d 22 = false := by
     cases h : d 22 with
     | false => rfl
     | true =>
      have h_16 := closed_at hclosed (k := 22) (j := 16) h (by kernel_rfl)
      have h_15 := closed_at hclosed (k := 16) (j := 15) h_16 (by kernel_rfl)
      have h_14 := closed_at hclosed (k := 15) (j := 14) h_15 (by kernel_rfl)
      rw [hd] at h_14
      cases h_14
    go_simp
    exact FreeS.val (hK _ _ ⟨θ, rfl, fun _ _ => rfl, hS.1.keep (Below.refl _ _) 14 rfl, fun h => by have h : d 22 = true := h; rw [h22] at h; cases h⟩)
  · simp only [↓List.getElem?_toArray, ↓List.getElem?_cons_zero, ↓List.getElem?_cons_succ, Option.some.injEq] at ho
    subst ho
    refine .inl ⟨by kernel_rfl, FreeS.keep fun K hK => ?_⟩
    try dsimp only
    have h22 : d 22 = false := by
     cases h : d 22 with
     | false => rfl
     | true =>
      have h_16 := closed_at hclosed (k := 22) (j := 16) h (by kernel_rfl)
      have h_15 := closed_at hclosed (k := 16) (j := 15) h_16 (by kernel_rfl)
      rw [hd] at h_15
      cases h_15
    go_simp
    refine FreeS.val (hK _ _ ⟨(fun k => if k = 15 then wq.heap.size else θ k), rfl, ?_, hS.1.step ((Below.refl _ _).alloc (Nat.le_refl _) _) 15 wq.heap.size (Nat.le_refl _) (fun o ho => ?_), fun h => by have h : d 22 = true := h; rw [h22] at h; cases h⟩)
    · intro k hk
      rcases Nat.lt_or_ge k 24 with hkN | hkN
      · have hk' : k = 15 ∨ k = 16 ∨ (k = 0 ∨ k = 1 ∨ k = 2 ∨ k = 3 ∨ k = 4 ∨ k = 5 ∨ k = 6 ∨ k = 7 ∨ k = 8 ∨ k = 9 ∨ k = 10 ∨ k = 11 ∨ k = 12 ∨ k = 13 ∨ k = 14 ∨ k = 17 ∨ k = 18 ∨ k = 19 ∨ k = 20 ∨ k = 21 ∨ k = 22 ∨ k = 23) := by omega
        rcases hk' with rfl | rfl | hk'
        · rw [hd] at hk; cases hk
        · have h16 : d 16 = false := by
           cases h : d 16 with
           | false => rfl
           | true =>
            have h_15 := closed_at hclosed (k := 16) (j := 15) h (by kernel_rfl)
            rw [hd] at h_15
            cases h_15
          rw [h16] at hk
          cases hk
        · rcases hk' with rfl | rfl | rfl | rfl | rfl | rfl | rfl | rfl | rfl | rfl | rfl | rfl | rfl | rfl | rfl | rfl | rfl | rfl | rfl | rfl | rfl | rfl <;> rfl
      · rw [List.getElem?_eq_none (by simpa using hkN), List.getElem?_eq_none (by simpa using hkN)]
    · have e := Option.some.inj ho
      rw [← e]
      exact heap_at _ _ rfl
  · simp only [↓List.getElem?_toArray, ↓List.getElem?_cons_zero, ↓List.getElem?_cons_succ, Option.some.injEq] at ho
    subst ho
    refine .inl ⟨by kernel_rfl, FreeS.keep fun K hK => ?_⟩
    try dsimp only
    have h22 : d 22 = false := by
     cases h : d 22 with
     | false => rfl
     | true =>
      have h_16 := closed_at hclosed (k := 22) (j := 16) h (by kernel_rfl)
      rw [hd] at h_16
      cases h_16
    go_simp
    have h15 := hdep 15 (by kernel_rfl)
    have hrow := hS.1.rows 15 _ h15 rfl
    refine FreeS.enter ((bookN_any [⟨0, 2, 0⟩] (.slice (some ⟨θ 15, 0, none⟩) 1 1) wq (sl_new (by rfl) (by decide) (heap_lt hrow) hrow)).mono fun e w'' h => ?_)
    obtain ⟨⟨g, he, hg, hlt⟩, hB⟩ := h
    refine ⟨_, he, hK _ _ ⟨(fun k => if k = 16 then g else θ k), rfl, ?_, hS.1.step hB 16 g (Nat.le_of_lt hlt) (fun o ho => ?_), fun h => by have h : d 22 = true := h; rw [h22] at h; cases h⟩⟩
    · intro k hk
      rcases Nat.lt_or_ge k 24 with hkN | hkN
      · have hk' : k = 16 ∨ (k = 0 ∨ k = 1 ∨ k = 2 ∨ k = 3 ∨ k = 4 ∨ k = 5 ∨ k = 6 ∨ k = 7 ∨ k = 8 ∨ k = 9 ∨ k = 10 ∨ k = 11 ∨ k = 12 ∨ k = 13 ∨ k = 14 ∨ k = 15 ∨ k = 17 ∨ k = 18 ∨ k = 19 ∨ k = 20 ∨ k = 21 ∨ k = 22 ∨ k = 23) := by omega
        rcases hk' with rfl | hk'
        · rw [hd] at hk; cases hk
        · rcases hk' with rfl | rfl | rfl | rfl | rfl | rfl | rfl | rfl | rfl | rfl | rfl | rfl | rfl | rfl | rfl | rfl | rfl | rfl | rfl | rfl | rfl | rfl | rfl <;> rfl
      · rw [List.getElem?_eq_none (by simpa using hkN), List.getElem?_eq_none (by simpa using hkN)]
    · have e : tideRow = o := Option.some.inj ho
      rw [← e]
      exact hg
  · simp only [↓List.getElem?_toArray, ↓List.getElem?_cons_zero, ↓List.getElem?_cons_succ, Option.some.injEq] at ho
    subst ho
    refine .inl ⟨by kernel_rfl, FreeS.keep fun K hK => ?_⟩
    try dsimp only
    have h22 : d 22 = false := by
     cases h : d 22 with
     | false => rfl
     | true =>
      have h_19 := closed_at hclosed (k := 22) (j := 19) h (by kernel_rfl)
      have h_18 := closed_at hclosed (k := 19) (j := 18) h_19 (by kernel_rfl)
      have h_17 := closed_at hclosed (k := 18) (j := 17) h_18 (by kernel_rfl)
      rw [hd] at h_17
      cases h_17
    go_simp
    exact FreeS.val (hK _ _ ⟨θ, rfl, fun _ _ => rfl, hS.1.keep (Below.refl _ _) 17 rfl, fun h => by have h : d 22 = true := h; rw [h22] at h; cases h⟩)
  · simp only [↓List.getElem?_toArray, ↓List.getElem?_cons_zero, ↓List.getElem?_cons_succ, Option.some.injEq] at ho
    subst ho
    refine .inl ⟨by kernel_rfl, FreeS.keep fun K hK => ?_⟩
    try dsimp only
    have h22 : d 22 = false := by
     cases h : d 22 with
     | false => rfl
     | true =>
      have h_19 := closed_at hclosed (k := 22) (j := 19) h (by kernel_rfl)
      have h_18 := closed_at hclosed (k := 19) (j := 18) h_19 (by kernel_rfl)
      rw [hd] at h_18
      cases h_18
    go_simp
    refine FreeS.val (hK _ _ ⟨(fun k => if k = 18 then wq.heap.size else θ k), rfl, ?_, hS.1.step ((Below.refl _ _).alloc (Nat.le_refl _) _) 18 wq.heap.size (Nat.le_refl _) (fun o ho => ?_), fun h => by have h : d 22 = true := h; rw [h22] at h; cases h⟩)
    · intro k hk
      rcases Nat.lt_or_ge k 24 with hkN | hkN
      · have hk' : k = 18 ∨ k = 19 ∨ (k = 0 ∨ k = 1 ∨ k = 2 ∨ k = 3 ∨ k = 4 ∨ k = 5 ∨ k = 6 ∨ k = 7 ∨ k = 8 ∨ k = 9 ∨ k = 10 ∨ k = 11 ∨ k = 12 ∨ k = 13 ∨ k = 14 ∨ k = 15 ∨ k = 16 ∨ k = 17 ∨ k = 20 ∨ k = 21 ∨ k = 22 ∨ k = 23) := by omega
        rcases hk' with rfl | rfl | hk'
        · rw [hd] at hk; cases hk
        · have h19 : d 19 = false := by
           cases h : d 19 with
           | false => rfl
           | true =>
            have h_18 := closed_at hclosed (k := 19) (j := 18) h (by kernel_rfl)
            rw [hd] at h_18
            cases h_18
          rw [h19] at hk
          cases hk
        · rcases hk' with rfl | rfl | rfl | rfl | rfl | rfl | rfl | rfl | rfl | rfl | rfl | rfl | rfl | rfl | rfl | rfl | rfl | rfl | rfl | rfl | rfl | rfl <;> rfl
      · rw [List.getElem?_eq_none (by simpa using hkN), List.getElem?_eq_none (by simpa using hkN)]
    · have e := Option.some.inj ho
      rw [← e]
      exact heap_at _ _ rfl
  · simp only [↓List.getElem?_toArray, ↓List.getElem?_cons_zero, ↓List.getElem?_cons_succ, Option.some.injEq] at ho
    subst ho
    refine .inl ⟨by kernel_rfl, FreeS.keep fun K hK => ?_⟩
    try dsimp only
    have h22 : d 22 = false := by
     cases h : d 22 with
     | false => rfl
     | true =>
      have h_19 := closed_at hclosed (k := 22) (j := 19) h (by kernel_rfl)
      rw [hd] at h_19
      cases h_19
    go_simp
    have h18 := hdep 18 (by kernel_rfl)
    have hrow := hS.1.rows 18 _ h18 rfl
    refine FreeS.enter ((bookN_any [⟨0, 0, 121⟩] (.slice (some ⟨θ 18, 0, none⟩) 1 1) wq (sl_new (by rfl) (by decide) (heap_lt hrow) hrow)).mono fun e w'' h => ?_)
    obtain ⟨⟨g, he, hg, hlt⟩, hB⟩ := h
    refine ⟨_, he, hK _ _ ⟨(fun k => if k = 19 then g else θ k), rfl, ?_, hS.1.step hB 19 g (Nat.le_of_lt hlt) (fun o ho => ?_), fun h => by have h : d 22 = true := h; rw [h22] at h; cases h⟩⟩
    · intro k hk
      rcases Nat.lt_or_ge k 24 with hkN | hkN
      · have hk' : k = 19 ∨ (k = 0 ∨ k = 1 ∨ k = 2 ∨ k = 3 ∨ k = 4 ∨ k = 5 ∨ k = 6 ∨ k = 7 ∨ k = 8 ∨ k = 9 ∨ k = 10 ∨ k = 11 ∨ k = 12 ∨ k = 13 ∨ k = 14 ∨ k = 15 ∨ k = 16 ∨ k = 17 ∨ k = 18 ∨ k = 20 ∨ k = 21 ∨ k = 22 ∨ k = 23) := by omega
        rcases hk' with rfl | hk'
        · rw [hd] at hk; cases hk
        · rcases hk' with rfl | rfl | rfl | rfl | rfl | rfl | rfl | rfl | rfl | rfl | rfl | rfl | rfl | rfl | rfl | rfl | rfl | rfl | rfl | rfl | rfl | rfl | rfl <;> rfl
      · rw [List.getElem?_eq_none (by simpa using hkN), List.getElem?_eq_none (by simpa using hkN)]
    · have e : tideRow = o := Option.some.inj ho
      rw [← e]
      exact hg
  · simp only [↓List.getElem?_toArray, ↓List.getElem?_cons_zero, ↓List.getElem?_cons_succ, Option.some.injEq] at ho
    subst ho
    refine .inl ⟨by kernel_rfl, FreeS.keep fun K hK => ?_⟩
    try dsimp only
    have h22 : d 22 = false := by
     cases h : d 22 with
     | false => rfl
     | true =>
      have h_21 := closed_at hclosed (k := 22) (j := 21) h (by kernel_rfl)
      have h_20 := closed_at hclosed (k := 21) (j := 20) h_21 (by kernel_rfl)
      rw [hd] at h_20
      cases h_20
    refine FreeS.of_run (u := .slice (some ⟨wq.heap.size, 0, none⟩) 7 7) (w := wq.alloc (soundRow [⟨0, 0, 0⟩, ⟨0, 0, 0⟩, ⟨0, 0, 0⟩, ⟨0, 0, 0⟩, ⟨0, 0, 0⟩, ⟨0, 0, 0⟩, ⟨0, 0, 0⟩])) (by kernel_rfl) (hK _ _ ⟨(fun k => if k = 20 then wq.heap.size else θ k), rfl, ?_, hS.1.step ((Below.refl _ _).alloc (Nat.le_refl _) _) 20 wq.heap.size (Nat.le_refl _) (fun o ho => ?_), fun h => by have h : d 22 = true := h; rw [h22] at h; cases h⟩)
    · intro k hk
      rcases Nat.lt_or_ge k 24 with hkN | hkN
      · have hk' : k = 20 ∨ k = 21 ∨ (k = 0 ∨ k = 1 ∨ k = 2 ∨ k = 3 ∨ k = 4 ∨ k = 5 ∨ k = 6 ∨ k = 7 ∨ k = 8 ∨ k = 9 ∨ k = 10 ∨ k = 11 ∨ k = 12 ∨ k = 13 ∨ k = 14 ∨ k = 15 ∨ k = 16 ∨ k = 17 ∨ k = 18 ∨ k = 19 ∨ k = 22 ∨ k = 23) := by omega
        rcases hk' with rfl | rfl | hk'
        · rw [hd] at hk; cases hk
        · have h21 : d 21 = false := by
           cases h : d 21 with
           | false => rfl
           | true =>
            have h_20 := closed_at hclosed (k := 21) (j := 20) h (by kernel_rfl)
            rw [hd] at h_20
            cases h_20
          rw [h21] at hk
          cases hk
        · rcases hk' with rfl | rfl | rfl | rfl | rfl | rfl | rfl | rfl | rfl | rfl | rfl | rfl | rfl | rfl | rfl | rfl | rfl | rfl | rfl | rfl | rfl | rfl <;> rfl
      · rw [List.getElem?_eq_none (by simpa using hkN), List.getElem?_eq_none (by simpa using hkN)]
    · have e := Option.some.inj ho
      rw [← e]
      exact heap_at _ _ rfl
  · simp only [↓List.getElem?_toArray, ↓List.getElem?_cons_zero, ↓List.getElem?_cons_succ, Option.some.injEq] at ho
    subst ho
    refine .inl ⟨by kernel_rfl, FreeS.keep fun K hK => ?_⟩
    try dsimp only
    have h22 : d 22 = false := by
     cases h : d 22 with
     | false => rfl
     | true =>
      have h_21 := closed_at hclosed (k := 22) (j := 21) h (by kernel_rfl)
      rw [hd] at h_21
      cases h_21
    go_simp
    have h20 := hdep 20 (by kernel_rfl)
    have hrow := hS.1.rows 20 _ h20 rfl
    refine FreeS.enter ((bookN_any [⟨0, 0, 0⟩, ⟨0, 0, 0⟩, ⟨0, 0, 0⟩, ⟨0, 0, 0⟩, ⟨0, 0, 0⟩, ⟨0, 0, 0⟩, ⟨0, 0, 0⟩] (.slice (some ⟨θ 20, 0, none⟩) 7 7) wq (sl_new (by rfl) (by decide) (heap_lt hrow) hrow)).mono fun e w'' h => ?_)
    obtain ⟨⟨g, he, hg, hlt⟩, hB⟩ := h
    refine ⟨_, he, hK _ _ ⟨(fun k => if k = 21 then g else θ k), rfl, ?_, hS.1.step hB 21 g (Nat.le_of_lt hlt) (fun o ho => ?_), fun h => by have h : d 22 = true := h; rw [h22] at h; cases h⟩⟩
    · intro k hk
      rcases Nat.lt_or_ge k 24 with hkN | hkN
      · have hk' : k = 21 ∨ (k = 0 ∨ k = 1 ∨ k = 2 ∨ k = 3 ∨ k = 4 ∨ k = 5 ∨ k = 6 ∨ k = 7 ∨ k = 8 ∨ k = 9 ∨ k = 10 ∨ k = 11 ∨ k = 12 ∨ k = 13 ∨ k = 14 ∨ k = 15 ∨ k = 16 ∨ k = 17 ∨ k = 18 ∨ k = 19 ∨ k = 20 ∨ k = 22 ∨ k = 23) := by omega
        rcases hk' with rfl | hk'
        · rw [hd] at hk; cases hk
        · rcases hk' with rfl | rfl | rfl | rfl | rfl | rfl | rfl | rfl | rfl | rfl | rfl | rfl | rfl | rfl | rfl | rfl | rfl | rfl | rfl | rfl | rfl | rfl | rfl <;> rfl
      · rw [List.getElem?_eq_none (by simpa using hkN), List.getElem?_eq_none (by simpa using hkN)]
    · have e : tideRow = o := Option.some.inj ho
      rw [← e]
      exact hg
  · simp only [↓List.getElem?_toArray, ↓List.getElem?_cons_zero, ↓List.getElem?_cons_succ, Option.some.injEq] at ho
    subst ho
    refine .inl ⟨by kernel_rfl, FreeS.keep fun K hK => ?_⟩
    try dsimp only
    have hall : ∀ i, (knRow i).isSome = true → d i = true := by
     intro i hi
     have hk : (1 ≤ i ∧ i ≤ 10) ∨ i = 13 ∨ i = 16 ∨ i = 19 ∨ i = 21 ∨ i = 12 ∨ i = 15 ∨ i = 18 ∨ i = 20 := by
      unfold knRow at hi
      split at hi
      · omega
      · split at hi
        · omega
        · split at hi
          · omega
          · split at hi
            · omega
            · split at hi
              · omega
              · cases hi
     have hk2 : i = 1 ∨ i = 2 ∨ i = 3 ∨ i = 4 ∨ i = 5 ∨ i = 6 ∨ i = 7 ∨ i = 8 ∨ i = 9 ∨ i = 10 ∨ i = 13 ∨ i = 16 ∨ i = 19 ∨ i = 21 ∨ i = 12 ∨ i = 15 ∨ i = 18 ∨ i = 20 := by omega
     rcases hk2 with rfl | rfl | rfl | rfl | rfl | rfl | rfl | rfl | rfl | rfl | rfl | rfl | rfl | rfl | rfl | rfl | rfl | rfl
     · exact hdep 1 (by kernel_rfl)
     · exact hdep 2 (by kernel_rfl)
     · exact hdep 3 (by kernel_rfl)
     · exact hdep 4 (by kernel_rfl)
     · exact hdep 5 (by kernel_rfl)
     · exact hdep 6 (by kernel_rfl)
     · exact hdep 7 (by kernel_rfl)
     · exact hdep 8 (by kernel_rfl)
     · exact hdep 9 (by kernel_rfl)
     · exact hdep 10 (by kernel_rfl)
     · exact hdep 13 (by kernel_rfl)
     · exact hdep 16 (by kernel_rfl)
     · exact hdep 19 (by kernel_rfl)
     · exact hdep 21 (by kernel_rfl)
     · exact closed_at hclosed (k := 13) (j := 12) (hdep 13 (by kernel_rfl)) (by kernel_rfl)
     · exact closed_at hclosed (k := 16) (j := 15) (hdep 16 (by kernel_rfl)) (by kernel_rfl)
     · exact closed_at hclosed (k := 19) (j := 18) (hdep 19 (by kernel_rfl)) (by kernel_rfl)
     · exact closed_at hclosed (k := 21) (j := 20) (hdep 21 (by kernel_rfl)) (by kernel_rfl)
    refine FreeS.of_run (u := .slice (some ⟨wq.heap.size, 0, none⟩) 15 15) (w := wq.alloc (badRow θ)) (by kernel_rfl) (hK _ _ ⟨(fun k => if k = 22 then wq.heap.size else θ k), rfl, ?_, hS.1.step ((Below.refl _ _).alloc (Nat.le_refl _) _) 22 wq.heap.size (Nat.le_refl _) (fun o ho => by cases ho), fun _ => ⟨?_, hS.1.held.2.2.size, fun i hi => ?_⟩⟩)
    · intro k hk
      rcases Nat.lt_or_ge k 24 with hkN | hkN
      · have hk' : k = 22 ∨ k = 23 ∨ (k = 0 ∨ k = 1 ∨ k = 2 ∨ k = 3 ∨ k = 4 ∨ k = 5 ∨ k = 6 ∨ k = 7 ∨ k = 8 ∨ k = 9 ∨ k = 10 ∨ k = 11 ∨ k = 12 ∨ k = 13 ∨ k = 14 ∨ k = 15 ∨ k = 16 ∨ k = 17 ∨ k = 18 ∨ k = 19 ∨ k = 20 ∨ k = 21) := by omega
        rcases hk' with rfl | rfl | hk'
        · rw [hd] at hk; cases hk
        · have h23 : d 23 = false := by
           cases h : d 23 with
           | false => rfl
           | true =>
            have h_22 := closed_at hclosed (k := 23) (j := 22) h (by kernel_rfl)
            rw [hd] at h_22
            cases h_22
          rw [h23] at hk
          cases hk
        · rcases hk' with rfl | rfl | rfl | rfl | rfl | rfl | rfl | rfl | rfl | rfl | rfl | rfl | rfl | rfl | rfl | rfl | rfl | rfl | rfl | rfl | rfl | rfl <;> rfl
      · rw [List.getElem?_eq_none (by simpa using hkN), List.getElem?_eq_none (by simpa using hkN)]
    · exact heap_at _ _ rfl
    · obtain ⟨o, ho⟩ := Option.isSome_iff_exists.1 hi
      have h1 := heap_lt (hS.1.rows i o (hall i hi) ho)
      have hi22 : i ≠ 22 := fun e => by subst e; cases hi
      show (if i = 22 then wq.heap.size else θ i) ≠ (if 22 = 22 then wq.heap.size else θ 22)
      rw [if_neg hi22, if_pos rfl]
      omega
  · simp only [↓List.getElem?_toArray, ↓List.getElem?_cons_zero, ↓List.getElem?_cons_succ, Option.some.injEq] at ho
    subst ho
    refine .inl ⟨by kernel_rfl, FreeS.keep fun K hK => ?_⟩
    try dsimp only
    have h22 := hdep 22 (by kernel_rfl)
    go_simp
    exact FreeS.val (hK _ _ ⟨θ, rfl, fun _ _ => rfl, hS.1.keep (Below.refl _ _) 23 rfl, fun _ => hS.2 h22⟩)
 case hend =>
  rintro d θ wq hall hS
  try dsimp only at hS ⊢
  have hdn : ∀ i, (knRow i).isSome = true → d i = true := fun i hi => hall i (knRow_lt hi)
  show R _ _
  rw [HR.out]
  exact ⟨θ, ⟨(vBk (.slice none 0 0) (.slice none 0 0) zBk), (vBk (.slice (some ⟨θ 1, 0, none⟩) 4 4) (.slice none 0 0) Ld.ownB), (vBk (.slice (some ⟨θ 2, 0, none⟩) 4 4) (.slice none 0 0) Ld.ownB), (vBk (.slice (some ⟨θ 3, 0, none⟩) 4 4) (.slice none 0 0) Ld.ownB), (vBk (.slice (some ⟨θ 4, 0, none⟩) 4 4) (.slice none 0 0) Ld.ownB), (vBk (.slice (some ⟨θ 5, 0, none⟩) 4 4) (.slice none 0 0) Ld.ownB), (vBk (.slice (some ⟨θ 6, 0, none⟩) 4 4) (.slice none 0 0) Ld.ownB), (vBk (.slice (some ⟨θ 7, 0, none⟩) 4 4) (.slice none 0 0) Ld.ownB), (vBk (.slice (some ⟨θ 8, 0, none⟩) 4 4) (.slice none 0 0) Ld.ownB), (vBk (.slice (some ⟨θ 9, 0, none⟩) 4 4) (.slice none 0 0) Ld.ownB), (vBk (.slice (some ⟨θ 10, 0, none⟩) 4 4) (.slice none 0 0) Ld.ownB), (.agg #[I 4, I 0, I 0]), (.slice (some ⟨θ 12, 0, none⟩) 1 1), (vBk (.slice (some ⟨θ 13, 0, none⟩) 4 4) (.slice (some ⟨θ 12, 0, none⟩) 1 1) (Ld.bookOf [⟨4, 0, 0⟩])), (.agg #[I 0, I 2, I 0]), (.slice (some ⟨θ 15, 0, none⟩) 1 1), (vBk (.slice (some ⟨θ 16, 0, none⟩) 4 4) (.slice (some ⟨θ 15, 0, none⟩) 1 1) (Ld.bookOf [⟨0, 2, 0⟩])), (.agg #[I 0, I 0, I 121]), (.slice (some ⟨θ 18, 0, none⟩) 1 1), (vBk (.slice (some ⟨θ 19, 0, none⟩) 4 4) (.slice (some ⟨θ 18, 0, none⟩) 1 1) (Ld.bookOf [⟨0, 0, 121⟩])), (.slice (some ⟨θ 20, 0, none⟩) 7 7), (vBk (.slice (some ⟨θ 21, 0, none⟩) 4 4) (.slice (some ⟨θ 20, 0, none⟩) 7 7) (Ld.bookOf [⟨0, 0, 0⟩, ⟨0, 0, 0⟩, ⟨0, 0, 0⟩, ⟨0, 0, 0⟩, ⟨0, 0, 0⟩, ⟨0, 0, 0⟩, ⟨0, 0, 0⟩])), (.slice (some ⟨θ 22, 0, none⟩) 15 15), by subst hA; kernel_rfl⟩, ⟨hS.1.held, fun i o _ ho => hS.1.rows i o (hdn i (by rw [ho]; rfl)) ho, fun i j _ _ hi hj hne => hS.1.apart i j (hdn i hi) (hdn j hj) hi hj hne, fun i _ hi => hS.1.fresh i (hdn i hi) hi⟩, hS.2 (hall 22 (by decide))⟩
end Go.Proofs.Ytjgpghaofhcfnaa
