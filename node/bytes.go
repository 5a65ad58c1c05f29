package node

import (
	"casemate/api"
	"casemate/octet"
)

// What the first byte tells, and how many bytes 0 stand behind the number of keys.
const (
	leaf   = 1
	inner  = 2
	spaces = 6
)

// Write is a node's bytes.
func Write(n Node) ([]byte, api.Errno) {
	if !Right(n) {
		return nil, api.ErrForm
	}
	kind := byte(inner)
	if n.Leaf {
		kind = leaf
	}
	b := append([]byte{kind, byte(len(n.Keys))}, make([]byte, spaces)...)
	for i, key := range n.Keys {
		b = append(b, octet.Put(key)...)
		if n.Leaf {
			b = append(b, n.Vals[i][:]...)
			continue
		}
		b = append(b, octet.Put(n.Kids[i].Sector)...)
		b = append(b, n.Kids[i].Sum[:]...)
	}
	return octet.Pad(b, api.Sector)
}

// Read is bytes' node. Bytes are a node's, if they are just those that it would be written as: so there are no others of it.
func Read(b []byte) (Node, api.Errno) {
	n := read(b)
	again, e := Write(n)
	if e != api.OK || !octet.Same(again, b) {
		return Node{}, api.ErrForm
	}
	return n, api.OK
}

// read is what bytes tell, whether they are a node's or not. Where there are too few of them it takes noughts.
func read(b []byte) Node {
	r := octet.Read(b)
	n := Node{Leaf: r.U8() == leaf}
	count := r.U8()
	r.Bytes(spaces)
	for range count {
		n.Keys = append(n.Keys, r.U64())
		if n.Leaf {
			n.Vals = append(n.Vals, [api.Value]byte{})
			copy(n.Vals[len(n.Vals)-1][:], r.Bytes(api.Value))
			continue
		}
		kid := api.Ref{Sector: r.U32()}
		copy(kid.Sum[:], r.Bytes(len(kid.Sum)))
		n.Kids = append(n.Kids, kid)
	}
	return n
}
