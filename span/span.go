// Package span tells which keys lead to which kid of a node.
package span

import "casemate/node"

// Of is those of the keys from from on to to whose way in a node is the place i: the first one, the last one, and whether there is any.
func Of(n node.Node, i int, from, to uint64) (uint64, uint64, bool) {
	if i < 0 || i >= len(n.Keys) {
		return 0, 0, false
	}
	// The first place has no least key: what is less than all keys leads there, too.
	if i > 0 {
		from = max(from, n.Keys[i])
	}
	if i+1 < len(n.Keys) {
		next := n.Keys[i+1]
		if next <= from {
			return 0, 0, false
		}
		to = min(to, next-1)
	}
	if from > to {
		return 0, 0, false
	}
	return from, to, true
}
