package machine

import "linker/instr"

// word gives the lowest 32 bits of n.
func word(n int) int {
	return n & instr.MaxWord
}

// signed takes a word for a number with a sign.
func signed(w int) int {
	if w < 1<<31 {
		return w
	}
	return w - 1<<32
}

// plain gives the operation on two registers that does what op does with its number.
func plain(op int) int {
	switch op {
	case instr.Addi:
		return instr.Add
	case instr.Slti:
		return instr.Slt
	case instr.Xori:
		return instr.Xor
	case instr.Ori:
		return instr.Or
	case instr.Andi:
		return instr.And
	}
	return instr.None
}

// computed gives what op makes of two words; bits above the lowest 32 mean nothing.
func computed(op int, a int, b int) int {
	switch op {
	case instr.Add:
		return a + b
	case instr.Sub:
		return a - b
	case instr.Slt:
		return oneIf(holds(instr.Blt, a, b))
	case instr.Sltu:
		return oneIf(holds(instr.Bltu, a, b))
	case instr.Xor:
		return a ^ b
	case instr.Or:
		return a | b
	case instr.And:
		return a & b
	}
	return 0
}

func oneIf(is bool) int {
	if is {
		return 1
	}
	return 0
}

// holds tells whether a branch is taken over two words.
func holds(op int, a int, b int) bool {
	switch op {
	case instr.Beq:
		return a == b
	case instr.Bne:
		return a != b
	case instr.Blt:
		return signed(a) < signed(b)
	case instr.Bge:
		return signed(a) >= signed(b)
	case instr.Bltu:
		return a < b
	case instr.Bgeu:
		return a >= b
	}
	return false
}
