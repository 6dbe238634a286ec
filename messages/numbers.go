package messages

// Numbers have the highest byte first: a pair is one of two bytes, a word one of four.
const (
	pairSize = 2
	wordSize = 4
)

func putPair(b []byte, n int) []byte { return append(b, byte(n>>8), byte(n)) }

func putWord(b []byte, n int) []byte { return putPair(putPair(b, n>>16), n) }

func putPairs(b []byte, list []int) []byte {
	for _, n := range list {
		b = putPair(b, n)
	}
	return b
}

func number(b []byte) int {
	n := 0
	for _, digit := range b {
		n = n<<8 | int(digit)
	}
	return n
}

// readWord tells the number of b; false, if it has not as many bytes as a word.
func readWord(b []byte) (int, bool) {
	if len(b) != wordSize {
		return 0, false
	}
	return number(b), true
}

// readPairs tells the numbers of b; false, if a half of one is left.
func readPairs(b []byte) ([]int, bool) {
	list := []int(nil)
	for ; len(b) >= pairSize; b = b[pairSize:] {
		list = append(list, number(b[:pairSize]))
	}
	return list, len(b) == 0
}
