package audit

import (
	"casemate/api"
	"casemate/req"
)

// volume is how many blocks there are, none of one that is not there; and of each block that was written which write it was. Volumes that are alike may share their map, so it is copied ahead of each change.
type volume struct {
	blocks int
	writes map[int]int
}

// volumes is a tenant's volumes by their numbers, of which 0 is none.
type volumes [api.MaxVolumes + 1]volume

// copied is a map as it is, in new memory.
func copied[K comparable, V any](m map[K]V) map[K]V {
	c := make(map[K]V, len(m))
	for k, v := range m {
		c[k] = v
	}
	return c
}

// mayBe tells whether there may be a volume of a number.
func mayBe(number int) bool {
	return number >= 1 && number <= api.MaxVolumes
}

// mayHave tells whether a volume may have so many blocks.
func mayHave(blocks int) bool {
	return blocks >= 1 && blocks <= api.MaxBlocks
}

// has tells whether there is a volume of a number.
func (l *volumes) has(number int) bool {
	return mayBe(number) && l[number].blocks > 0
}

// refusal is the error of a Create, a Remove, a Resize or a Snapshot; OK, if it can be done.
func (l *volumes) refusal(q req.Request) api.Errno {
	has := l.has(q.Volume)
	switch q.Kind {
	case req.Create:
		switch {
		case !mayBe(q.Volume):
			return api.ErrVolume
		case !mayHave(q.Count):
			return api.ErrArg
		case has:
			return api.ErrThere
		}
	case req.Snapshot:
		switch {
		case !has || !mayBe(q.To):
			return api.ErrVolume
		case l.has(q.To):
			return api.ErrThere
		}
	default:
		switch {
		case !has:
			return api.ErrVolume
		case q.Kind == req.Resize && !mayHave(q.Count):
			return api.ErrArg
		}
	}
	return api.OK
}

// change does a Create, a Remove, a Resize or a Snapshot that can be done.
func (l *volumes) change(q req.Request) {
	switch q.Kind {
	case req.Create:
		l[q.Volume] = volume{blocks: q.Count}
	case req.Remove:
		l[q.Volume] = volume{}
	case req.Resize:
		l.resize(q.Volume, q.Count)
	case req.Snapshot:
		l[q.To] = l[q.Volume]
	}
}

// resize lets a volume have so many blocks: those behind are not there any more.
func (l *volumes) resize(number, blocks int) {
	v := volume{blocks, copied(l[number].writes)}
	for block := range l[number].writes {
		if block >= blocks {
			delete(v.writes, block)
		}
	}
	l[number] = v
}

// times is how many blocks, of the volumes as they were committed and as they are now, name each write.
func (b *Book) times() map[int]int {
	times := map[int]int{}
	for _, l := range []volumes{b.kept, b.now} {
		for _, v := range l {
			for _, write := range v.writes {
				times[write]++
			}
		}
	}
	return times
}
