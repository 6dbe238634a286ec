package policy

// places is a set of places in a path: bit n, if n systems have been read. A
// path has at most MaxPath of them, so the bits are enough. All places are
// followed together, which spares trying one way after the other.
type places uint16

const start places = 1

// way reads on in a path, and tells where it may come to from these places.
type way func(path []int, from places) places

// like tells whether the whole path can be read.
func like(path []int, w way) bool { return w(path, start)>>len(path)&1 == 1 }

func system(n int) way {
	return func(path []int, from places) places { return advance(path, from, func(s int) bool { return s == n }) }
}

func anySystem(path []int, from places) places {
	return advance(path, from, func(int) bool { return true })
}

func advance(path []int, from places, fits func(int) bool) places {
	var to places
	for n, s := range path {
		if from>>n&1 == 1 && fits(s) {
			to |= start << (n + 1)
		}
	}
	return to
}

func row(items []way) way {
	return func(path []int, from places) places {
		for _, read := range items {
			from = read(path, from)
		}
		return from
	}
}

func oneOf(rows []way) way {
	return func(path []int, from places) places {
		var to places
		for _, read := range rows {
			to |= read(path, from)
		}
		return to
	}
}

// repeat lets there be none of an item, or many.
func repeat(item way, zero, many bool) way {
	if many {
		item = again(item)
	}
	if zero {
		item = maybe(item)
	}
	return item
}

func maybe(read way) way {
	return func(path []int, from places) places { return from | read(path, from) }
}

// again reads once or more. It goes on from new places alone: so it ends, and
// a nest of them is not read over and over.
func again(read way) way {
	return func(path []int, from places) places {
		var to places
		for fresh := from; fresh != 0; {
			next := read(path, fresh)
			fresh = next &^ to
			to |= next
		}
		return to
	}
}
