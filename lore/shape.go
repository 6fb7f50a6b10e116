package lore

import (
	"math"

	"sluice/api"
	"sluice/grain"
)

const (
	signBit   = 1 << 31 // of a real
	aboveReal = 1 << 32 // the first word that is no real's bits
	leastInt  = 1 << 63 // the word of the least int
)

// truth is the word of a bool.
func truth(is bool) uint64 {
	if is {
		return 1
	}
	return 0
}

// isProgram tells whether a tree is one that a text could give, however long and however deep: else it is ErrTree (P17.1).
func isProgram(l api.Lore) bool {
	if !isName(l.Name) {
		return false
	}
	for _, d := range l.Decls {
		if !isDecl(d) {
			return false
		}
	}
	for _, steps := range l.Hands {
		if !areSteps(steps) {
			return false
		}
	}
	return true
}

func isDecl(d api.LoreDecl) bool {
	if d.Class == api.LoreBoth {
		return d == api.LoreDecl{Class: api.LoreBoth}
	}
	if d.Class < api.LoreConst || d.Class > api.LoreLane || !isName(d.Name) {
		return false
	}
	most := api.WordBool
	if d.Class == api.LoreState || d.Class == api.LoreAgg {
		most = api.WordTally
	}
	if d.Kind < api.WordInt || d.Kind > most {
		return false
	}
	if d.Class == api.LoreConst && !isConstant(d.Kind, d.Word) || d.Class != api.LoreConst && d.Word != 0 {
		return false
	}
	if d.Class == api.LoreLane {
		return d.Mon >= api.MonMin && d.Mon <= api.MonTally && isName(d.Into)
	}
	return d.Mon == api.MonNone && d.Into == ""
}

// isConstant tells whether a word is one that a text can give to a const of the kind.
func isConstant(kind api.WordKind, word uint64) bool {
	switch kind {
	case api.WordInt:
		return word != leastInt
	case api.WordReal:
		return word < aboveReal && grain.Class(uint32(word)) < api.FloatInf
	}
	return word <= 1
}

func areSteps(steps []api.LoreStep) bool {
	for _, s := range steps {
		if !isStep(s) {
			return false
		}
	}
	return true
}

func isStep(s api.LoreStep) bool {
	if s.Op < api.LsLet || s.Op > api.LsGo {
		return false
	}
	f := forms[s.Op]
	switch {
	case f.named != isName(s.Name), !f.named && s.Name != "":
		return false
	case f.x != isExpr(s.X), !f.x && len(s.X) > 0:
		return false
	case len(s.Y) > 0 && !(f.y && isExpr(s.Y)):
		return false
	case !f.then && len(s.Then) > 0, !f.other && len(s.Else) > 0:
		return false
	}
	return areSteps(s.Then) && areSteps(s.Else)
}

// isExpr tells whether nodes are one expression.
func isExpr(x api.LoreExpr) bool {
	ready := 0 // operands that no node has taken
	for _, n := range x {
		if !isNode(n) || ready < n.N {
			return false
		}
		ready += 1 - n.N
	}
	return ready == 1
}

func isNode(n api.LoreNode) bool {
	like, right := api.LoreNode{Op: n.Op}, false // like has the fields that such a node may have
	switch {
	case n.Op == api.LxInt:
		like.Word, right = n.Word, n.Word <= math.MaxInt64
	case n.Op == api.LxReal:
		like.Word, right = n.Word, n.Word < signBit && isConstant(api.WordReal, n.Word)
	case n.Op == api.LxBool:
		like.Word, right = n.Word, isConstant(api.WordBool, n.Word)
	case n.Op == api.LxName:
		_, isGiven := givenOf(n.Name)
		like.Name, right = n.Name, isGiven || isName(n.Name)
	case n.Op == api.LxCall:
		f, ok := functionOf(n.Name)
		like.N, like.Name, right = f.n, f.name, ok
	case n.Op >= api.LxNeg && n.Op <= api.LxOr:
		like.N, right = operands(n.Op), true
	}
	return right && n == like
}
