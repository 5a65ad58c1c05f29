package req

import "casemate/octet"

// allLetters is the letters of all fields. Data, which alone may have any length, are the last one.
const allLetters = "stvbcnrqofmxd"

// lettersOf is the letters of the fields that count for a kind, in the order of its bytes; nothing, if there is no such kind.
func lettersOf(kind int) string {
	switch kind {
	case Open:
		return "to"
	case Read, Discard:
		return "svbc"
	case Write:
		return "svbd"
	case Create, Resize:
		return "svc"
	case Remove:
		return "sv"
	case Snapshot:
		return "svn"
	case Close, Commit, Abort, Status:
		return "s"
	case Rotate:
		return "sofx"
	case Add:
		return "tomxrq"
	case Limit:
		return "trq"
	case Shred:
		return "t"
	}
	return ""
}

// each goes through some fields of a request, by their letters: numbers are handed to one function, with how many bytes they have, keys and salts to another one, data to a third.
func each(r *Request, letters string, number func(n *int, width int), key func(b []byte), data func(b *[]byte)) {
fields:
	for _, letter := range letters {
		n, width := &r.Session, 2
		switch letter {
		case 't':
			n, width = &r.Tenant, 1
		case 'v':
			n, width = &r.Volume, 1
		case 'n':
			n, width = &r.To, 1
		case 'b':
			n = &r.Block
		case 'c':
			n = &r.Count
		case 'r':
			n = &r.Reserve
		case 'q':
			n = &r.Quota
		case 'o':
			key(r.Outer[:])
			continue fields
		case 'f':
			key(r.Fresh[:])
			continue fields
		case 'm':
			key(r.Master[:])
			continue fields
		case 'x':
			key(r.Salt[:])
			continue fields
		case 'd':
			data(&r.Data)
			continue fields
		}
		number(n, width)
	}
}

// written is the bytes of some fields of a request. A number that has none of so many is cut.
func written(r Request, letters string) []byte {
	var b []byte
	each(&r, letters,
		func(n *int, width int) { b = append(b, octet.Put(uint16(*n))[2-width:]...) },
		func(key []byte) { b = append(b, key...) },
		func(data *[]byte) { b = append(b, *data...) })
	return b
}

// read is the request of a kind whose fields come next. If there are too few bytes, those that are missing are 0.
func read(kind int, from *octet.Reader) Request {
	r := Request{Kind: kind}
	each(&r, lettersOf(kind),
		func(n *int, width int) {
			if width == 1 {
				*n = int(from.U8())
			} else {
				*n = int(from.U16())
			}
		},
		func(key []byte) { copy(key, from.Bytes(len(key))) },
		func(data *[]byte) { *data = from.Rest() })
	return r
}

// whole is all fields of a request, with room for all of each number: so no two unlike requests of one kind have the same.
func whole(r Request) []byte {
	var b []byte
	each(&r, allLetters,
		func(n *int, _ int) { b = append(b, octet.Put(uint64(*n))...) },
		func(key []byte) { b = append(b, key...) },
		func(data *[]byte) { b = append(b, *data...) })
	return b
}
