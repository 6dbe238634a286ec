package messages

import (
	"byway/api"
	"byway/nets"
)

// Decode gives the message whose bytes b are.
func Decode(b []byte) (api.Update, api.Errno) {
	p, ok := split(b)
	if !ok {
		return api.Update{}, api.ErrBody
	}
	u := api.Update{Gone: p.gone, Nets: p.nets}
	if e := putAll(&u, p.attributes); e != api.OK {
		return api.Update{}, e
	}
	if !complete(p) {
		return api.Update{}, api.ErrMissing
	}
	if !validNets(p.gone, p.nets) {
		return api.Update{}, api.ErrNet
	}
	return u, api.OK
}

// putAll puts what the attributes say into u, up to the first that may not be.
func putAll(u *api.Update, list []attribute) api.Errno {
	ahead := byte(0)
	for _, a := range list {
		if a.kind <= ahead || !a.known() {
			return api.ErrFlags
		}
		if !a.put(u) {
			return api.ErrValue
		}
		ahead = a.kind
	}
	return api.OK
}

// complete tells whether the attributes are there that must be, and none without nets.
func complete(p parts) bool {
	if len(p.nets) == 0 {
		return len(p.attributes) == 0
	}
	return has(p.attributes, pathKind) && has(p.attributes, prefKind)
}

func has(list []attribute, kind byte) bool {
	for _, a := range list {
		if a.kind == kind {
			return true
		}
	}
	return false
}

// parts is what stands in a message's bytes, whether it may be or not.
type parts struct {
	gone, nets []api.Net
	attributes []attribute
}

// split parts b; false, if the lengths do not fit.
func split(b []byte) (parts, bool) {
	gone, behind, ok := cutCounted(b)
	if !ok {
		return parts{}, false
	}
	attributes, here, ok := cutCounted(behind)
	if !ok {
		return parts{}, false
	}
	goneNets, goneFit := splitNets(gone)
	list, listFits := splitAttributes(attributes)
	hereNets, hereFit := splitNets(here)
	return parts{gone: goneNets, nets: hereNets, attributes: list}, goneFit && listFits && hereFit
}

// cutCounted gives the part whose length stands at the beginning of b, and what is behind it.
func cutCounted(b []byte) (part, behind []byte, ok bool) {
	if len(b) < pairSize {
		return nil, nil, false
	}
	size, rest := number(b[:pairSize]), b[pairSize:]
	if len(rest) < size {
		return nil, nil, false
	}
	return rest[:size], rest[size:], true
}

func splitAttributes(b []byte) ([]attribute, bool) {
	list := []attribute(nil)
	for len(b) > 0 {
		if len(b) < headSize {
			return nil, false
		}
		size, rest := int(b[2]), b[headSize:]
		if len(rest) < size {
			return nil, false
		}
		list = append(list, attribute{flags: b[0], kind: b[1], value: rest[:size]})
		b = rest[size:]
	}
	return list, true
}

func splitNets(b []byte) ([]api.Net, bool) {
	list := []api.Net(nil)
	for len(b) > 0 {
		length, rest := int(b[0]), b[1:]
		size := nets.Size(length)
		if len(rest) < size {
			return nil, false
		}
		// One more than may be is enough to tell that there are too many.
		if len(list) <= api.MaxRoutes {
			list = append(list, api.Net{Addr: address(rest[:size]), Len: length})
		}
		b = rest[size:]
	}
	return list, true
}

// address gives the address whose first bytes these are.
func address(first []byte) int {
	return number(first) << (8 * (wordSize - len(first)))
}
