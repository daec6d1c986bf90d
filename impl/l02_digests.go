package impl

import "math/bits"

const (
	blockSize  = 64
	lengthSize = 8
	sumRounds  = 64
	maxParts   = 1000
	hexDigits  = "0123456789abcdef"
)

var roundWords = [sumRounds]uint32{
	0x428a2f98, 0x71374491, 0xb5c0fbcf, 0xe9b5dba5, 0x3956c25b, 0x59f111f1, 0x923f82a4, 0xab1c5ed5,
	0xd807aa98, 0x12835b01, 0x243185be, 0x550c7dc3, 0x72be5d74, 0x80deb1fe, 0x9bdc06a7, 0xc19bf174,
	0xe49b69c1, 0xefbe4786, 0x0fc19dc6, 0x240ca1cc, 0x2de92c6f, 0x4a7484aa, 0x5cb0a9dc, 0x76f988da,
	0x983e5152, 0xa831c66d, 0xb00327c8, 0xbf597fc7, 0xc6e00bf3, 0xd5a79147, 0x06ca6351, 0x14292967,
	0x27b70a85, 0x2e1b2138, 0x4d2c6dfc, 0x53380d13, 0x650a7354, 0x766a0abb, 0x81c2c92e, 0x92722c85,
	0xa2bfe8a1, 0xa81a664b, 0xc24b8b70, 0xc76c51a3, 0xd192e819, 0xd6990624, 0xf40e3585, 0x106aa070,
	0x19a4c116, 0x1e376c08, 0x2748774c, 0x34b0bcb5, 0x391c0cb3, 0x4ed8aa4a, 0x5b9cca4f, 0x682e6ff3,
	0x748f82ee, 0x78a5636f, 0x84c87814, 0x8cc70208, 0x90befffa, 0xa4506ceb, 0xbef9a3f7, 0xc67178f2,
}

func Sum(data string) string {
	state := [8]uint32{
		0x6a09e667, 0xbb67ae85, 0x3c6ef372, 0xa54ff53a,
		0x510e527f, 0x9b05688c, 0x1f83d9ab, 0x5be0cd19,
	}
	whole := len(data) / blockSize * blockSize
	state = absorbed(state, data[:whole])
	state = absorbed(state, paddedEnd(data[whole:], uint64(len(data))))
	return stateText(state)
}

func Hex(s string) string {
	out := make([]byte, 0, 2*len(s))
	for i := range len(s) {
		out = append(out, hexDigits[s[i]>>4], hexDigits[s[i]&15])
	}
	return string(out)
}

func Tagged(tag string, parts []string) string {
	if len(parts) > maxParts || len(tag) > MaxRlp/2 {
		return ""
	}
	total := len(tag)
	items := []string{RlpText(tag)}
	for _, part := range parts {
		total += len(part)
		if total > MaxRlp/2 {
			return ""
		}
		items = append(items, RlpText(part))
	}
	return Sum(RlpList(items))
}

// absorbed wants whole blocks.
func absorbed(state [8]uint32, blocks string) [8]uint32 {
	for at := 0; at < len(blocks); at += blockSize {
		state = mixed(state, blockWords(blocks[at:at+blockSize]))
	}
	return state
}

// paddedEnd fills what stands behind the last whole block up to the end of a
// block, so that the data's length in bits is the last thing in it.
func paddedEnd(end string, size uint64) string {
	out := append([]byte(end), 0x80)
	for len(out)%blockSize != blockSize-lengthSize {
		out = append(out, 0)
	}
	length := size * 8
	for shift := 56; shift >= 0; shift -= 8 {
		out = append(out, byte(length>>shift))
	}
	return string(out)
}

func blockWords(block string) [16]uint32 {
	var words [16]uint32
	for i := range len(block) {
		words[i/4] = words[i/4]<<8 | uint32(block[i])
	}
	return words
}

func spread(block [16]uint32) [sumRounds]uint32 {
	var words [sumRounds]uint32
	copy(words[:], block[:])
	for i := len(block); i < len(words); i++ {
		x, y := words[i-15], words[i-2]
		x = turned(x, 7) ^ turned(x, 18) ^ x>>3
		y = turned(y, 17) ^ turned(y, 19) ^ y>>10
		words[i] = words[i-16] + x + words[i-7] + y
	}
	return words
}

func mixed(state [8]uint32, block [16]uint32) [8]uint32 {
	words := spread(block)
	a, b, c, d := state[0], state[1], state[2], state[3]
	e, f, g, h := state[4], state[5], state[6], state[7]
	for i := range sumRounds {
		choice := e&f ^ ^e&g
		most := a&b ^ a&c ^ b&c
		first := h + (turned(e, 6) ^ turned(e, 11) ^ turned(e, 25)) + choice + roundWords[i] + words[i]
		second := (turned(a, 2) ^ turned(a, 13) ^ turned(a, 22)) + most
		a, b, c, d, e, f, g, h = first+second, a, b, c, d+first, e, f, g
	}
	after := [8]uint32{a, b, c, d, e, f, g, h}
	for i := range after {
		after[i] += state[i]
	}
	return after
}

// turned goes to the right, as the standard's rules are written.
func turned(word uint32, by int) uint32 {
	return bits.RotateLeft32(word, -by)
}

func stateText(state [8]uint32) string {
	out := make([]byte, 0, 32)
	for _, word := range state {
		out = append(out, byte(word>>24), byte(word>>16), byte(word>>8), byte(word))
	}
	return string(out)
}
