package term

import "tribunal/api"

// keyOf is a text that no other node has, of those that kept answers: each list has its length ahead, so that none runs into what stands behind it.
func keyOf(n api.Node) string {
	key := make([]byte, 0, 64)
	key = addNumber(key, uint64(n.Op))
	key = addText(key, n.Name)
	key = addSign(key, n.Int.Neg)
	key = addLimbs(key, n.Int.Mag)
	key = addNumber(key, uint64(n.Bits.Width))
	key = addLimbs(key, n.Bits.Val)
	key = addSort(key, n.Sort)
	key = addNumbers(key, n.Params)
	return string(addNumbers(key, n.Args))
}

// addNumber adds seven bits a byte, the lowest first; the last byte alone is below 128.
func addNumber(key []byte, n uint64) []byte {
	for n >= 128 {
		key = append(key, byte(n)|128)
		n >>= 7
	}
	return append(key, byte(n))
}

func addNumbers(key []byte, list []int) []byte {
	key = addNumber(key, uint64(len(list)))
	for _, n := range list {
		key = addNumber(key, uint64(n))
	}
	return key
}

func addSign(key []byte, neg bool) []byte {
	if neg {
		return append(key, 1)
	}
	return append(key, 0)
}

func addLimbs(key []byte, list api.Nat) []byte {
	key = addNumber(key, uint64(len(list)))
	for _, limb := range list {
		key = addNumber(key, limb)
	}
	return key
}

func addText(key []byte, s string) []byte {
	return append(addNumber(key, uint64(len(s))), s...)
}

func addSort(key []byte, s api.Sort) []byte {
	key = addNumber(key, uint64(s.Kind))
	key = addNumber(key, uint64(s.Width))
	key = addText(key, s.Name)
	key = addNumber(key, uint64(len(s.Args)))
	for _, arg := range s.Args {
		key = addSort(key, arg)
	}
	return key
}
