package avl

import "floodgate/rank"

// side is one of the two trees below a node.
type side func(*node) **node

// walk goes through all items below a node, by rising keys.
func walk(n *node, visit func(Item)) {
	if n == nil {
		return
	}
	walk(n.left, visit)
	visit(n.item)
	walk(n.right, visit)
}

// ahead tells whether an item has the lesser value, or the lesser key beside the same one.
func ahead(a, b Item) bool {
	if a.Val == b.Val {
		return rank.Compare(a.Key, b.Key) < 0
	}
	return rank.Compare(a.Val, b.Val) < 0
}

// height is how long the longest way down from a node is.
func height(n *node) int {
	if n == nil {
		return 0
	}
	return n.height
}

// least is the item with the least key below a node, that is there.
func least(n *node) Item {
	for n.left != nil {
		n = n.left
	}
	return n.item
}

// learn renews what a node knows of what stands below it.
func learn(n *node) {
	n.height = 1 + max(height(n.left), height(n.right))
	n.best = n.item
	for _, x := range [2]*node{n.left, n.right} {
		if x != nil && ahead(x.best, n.best) {
			n.best = x.best
		}
	}
}

// put is the tree below a node with an item more.
func put(n *node, x Item) *node {
	if n == nil {
		n = &node{item: x}
		learn(n)
		return n
	}
	if rank.Compare(x.Key, n.item.Key) < 0 {
		n.left = put(n.left, x)
	} else {
		n.right = put(n.right, x)
	}
	return balanced(n)
}

// cut is the tree below a node without a key, that is there.
func cut(n *node, key rank.Key) *node {
	switch rank.Compare(key, n.item.Key) {
	case -1:
		n.left = cut(n.left, key)
	case 1:
		n.right = cut(n.right, key)
	default:
		if n.left == nil {
			return n.right
		}
		if n.right == nil {
			return n.left
		}
		n.item = least(n.right)
		n.right = cut(n.right, n.item.Key)
	}
	return balanced(n)
}

// balanced is the node, or another one in its place, if one side below it was too high.
func balanced(n *node) *node {
	left := func(x *node) **node { return &x.left }
	right := func(x *node) **node { return &x.right }
	switch d := height(n.left) - height(n.right); {
	case d > 1:
		return lowered(n, left, right)
	case d < -1:
		return lowered(n, right, left)
	}
	learn(n)
	return n
}

// lowered is what stands in the place of a node, whose side high is higher by two than its side low.
func lowered(n *node, high, low side) *node {
	h := *high(n)
	if height(*low(h)) > height(*high(h)) {
		// an inner tree that is the higher one would only change sides: it is turned outwards first
		*high(n) = turned(h, low, high)
	}
	return turned(n, high, low)
}

// turned is the node on the side up, that comes in the place of n, which goes below it on the other side.
func turned(n *node, up, down side) *node {
	x := *up(n)
	*up(n) = *down(x)
	*down(x) = n
	learn(n)
	learn(x)
	return x
}
