package kernel

import "hartix/api"

func fault(at int, reason error) error {
	return &api.Fault{Layer: "kernel", At: at, Err: reason}
}

// refusal tells why a script can't be begun, whatever its files are; nil, if it can.
func refusal(s api.Script) error {
	switch {
	case s.Frames < api.MinFrames || s.Frames > api.MaxFrames:
		return fault(0, api.ErrKernelFrames)
	case s.Budget < 0 || s.Budget > api.MaxBudget:
		return fault(0, api.ErrKernelBudget)
	}
	if at, wrong := wrongTick(s.Ticks); wrong {
		return fault(at, api.ErrKernelTicks)
	}
	if at, wrong := wrongInput(s.Inputs); wrong {
		return fault(at, api.ErrKernelInputs)
	}
	return nil
}

// wrongTick tells the place of the first tick that may not be.
func wrongTick(ticks []int) (int, bool) {
	if len(ticks) > api.MaxEvents {
		return api.MaxEvents, true
	}
	ahead := -1
	for at, tick := range ticks {
		if tick <= ahead {
			return at, true
		}
		ahead = tick
	}
	return 0, false
}

// wrongInput tells the place of the first input that may not be.
func wrongInput(inputs []api.Input) (int, bool) {
	if len(inputs) > api.MaxEvents {
		return api.MaxEvents, true
	}
	ahead, room := 0, api.MaxInput
	for at, input := range inputs {
		room -= len(input.Data)
		if input.At < ahead || room < 0 {
			return at, true
		}
		ahead = input.At
	}
	return 0, false
}

// copyOf gives inputs that share no memory with those of the script.
func copyOf(inputs []api.Input) []api.Input {
	copies := append([]api.Input(nil), inputs...)
	for i := range copies {
		copies[i].Data = append([]byte(nil), copies[i].Data...)
	}
	return copies
}
