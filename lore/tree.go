package lore

import (
	"slices"

	"sluice/api"
)

// tree is an expression: a leaf, an operation of one or two operands, or a call.
type tree interface{ top() *node }

// node is a tree's own node, and what the study of it has found out.
type node struct {
	api.LoreNode
	depth int
	kind  api.WordKind
	ins   int    // the instruction of loom that it is
	found symbol // what a name stands for
}

func (n *node) top() *node { return n }

type leaf struct{ node }

type sole struct {
	node
	x tree
}

type pair struct {
	node
	x tree
	y tree
}

type call struct {
	node
	args []tree
}

// grow makes a tree of a node and its operands.
func grow(n api.LoreNode, under ...tree) tree {
	top := node{LoreNode: n, depth: 1}
	for _, t := range under {
		top.depth = max(top.depth, 1+t.top().depth)
	}
	switch {
	case n.Op == api.LxCall:
		return &call{top, slices.Clone(under)}
	case n.N == 2:
		return &pair{top, under[0], under[1]}
	case n.N == 1:
		return &sole{top, under[0]}
	}
	return &leaf{top}
}

// grown makes a tree of an expression that is one; see is told each node's number and its tree, in their order.
func grown(x api.LoreExpr, see func(i int, t tree)) tree {
	var stack []tree
	for i, n := range x {
		rest := len(stack) - n.N
		t := grow(n, stack[rest:]...)
		see(i, t)
		stack = append(stack[:rest], t)
	}
	if len(stack) == 0 {
		return nil
	}
	return stack[0]
}

// step is a statement whose names and kinds are known.
type step struct {
	op    int
	into  symbol // what its name stands for
	x     tree
	y     tree
	then  []step
	other []step
}
