package shadow

import "casemate/api"

// deepest is how many nodes in one another may be adopted.
const deepest = 40

// family is the kids of some nodes, by the references of these.
type family map[api.Ref][]api.Ref

// Adopt keeps what a reference leads to. All is loaded ahead of the first change, since an error must leave the store as it is.
func (s *Store) Adopt(r api.Ref) api.Errno {
	if !s.isMade() {
		return api.ErrNil
	}
	found := family{}
	if e := s.gather(r, found); e != api.OK {
		return e
	}
	if tooDeep(r, found) {
		return api.ErrFull
	}
	for ref := range found {
		s.keep(ref.Sector)
	}
	for ref, kids := range found {
		s.link(ref.Sector, kids)
	}
	return s.Hold(r)
}

// gather loads what the store does not keep of a reference and all kids, each once. How deep they are is not asked on the way, since errors of Load are told ahead of that.
func (s *Store) gather(r api.Ref, found family) api.Errno {
	if _, there := found[r]; there || s.Has(r.Sector) {
		return api.OK
	}
	n, e := s.Load(r)
	if e != api.OK {
		return e
	}
	found[r] = n.Kids
	for _, kid := range n.Kids {
		if e := s.gather(kid, found); e != api.OK {
			return e
		}
	}
	return api.OK
}

// tooDeep tells whether more of the nodes that were found are in one another than may be. It looks at a level of them at a time, for the ways from the root to one node may be more than can be gone.
func tooDeep(root api.Ref, found family) bool {
	level := family{}
	level.add(root, found)
	for range deepest {
		next := family{}
		for _, kids := range level {
			for _, kid := range kids {
				next.add(kid, found)
			}
		}
		level = next
	}
	return len(level) > 0
}

// add adds a node, if it was found.
func (f family) add(r api.Ref, found family) {
	if kids, there := found[r]; there {
		f[r] = kids
	}
}
