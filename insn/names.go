package insn

import (
	"strconv"

	"hartix/api"
)

const registers = 32

// Name tells an operation's name, "" of none (P1.4).
func Name(op int) string { return operationOf(op).name }

// ByName tells the operation of a name (P1.4).
func ByName(name string) (int, bool) {
	op, ok := operationsByName()[name]
	return op, ok
}

func operationsByName() map[string]int {
	byName := make(map[string]int, api.Ops)
	for op := api.OpLUI; op < api.Ops; op++ {
		byName[Name(op)] = op
	}
	return byName
}

// RegName tells a register's name, "" of none (P1.4).
func RegName(r int) string {
	if r < 0 || r >= registers {
		return ""
	}
	return [registers]string{
		"zero", "ra", "sp", "gp", "tp", "t0", "t1", "t2",
		"s0", "s1", "a0", "a1", "a2", "a3", "a4", "a5",
		"a6", "a7", "s2", "s3", "s4", "s5", "s6", "s7",
		"s8", "s9", "s10", "s11", "t3", "t4", "t5", "t6",
	}[r]
}

// Reg reads a register's name (P1.4).
func Reg(name string) (int, error) {
	r, ok := registersByName()[name]
	if !ok {
		return 0, fault(0, api.ErrInsnName)
	}
	return r, nil
}

func registersByName() map[string]int {
	byName := make(map[string]int, 2*registers+1)
	for r := range registers {
		byName["x"+strconv.Itoa(r)] = r
		byName[RegName(r)] = r
	}
	byName["fp"] = byName["s0"]
	return byName
}
